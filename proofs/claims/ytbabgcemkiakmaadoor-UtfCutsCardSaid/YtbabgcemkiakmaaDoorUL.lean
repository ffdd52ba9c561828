/- The plain mathematics of layer 2's own statements: a beginning that is cut; what was laid is read, and what was read is laid. -/
import Derived.Test.YtbabgcemkiakmaaDoorUJ
namespace Go.Proofs.YtbabgcemkiakmaaDoor
set_option linter.unusedVariables false
set_option linter.unusedSimpArgs false

theorem nx_take (l : List UInt8) (m : Nat) (hne : l ≠ []) (h : nxtK l ≤ m) : nx (l.take m) = nx l := by
  have hp := nxtK_pos l hne
  have key : nxtC (l.take m) = nxtC l ∧ nxtK (l.take m) = nxtK l := by
    have hne2 : l.take m ≠ [] := by
      intro e
      have : (l.take m).length = 0 := by rw [e]; rfl
      rw [List.length_take] at this; omega
    rcases nxtC_cases l with ⟨h1, _⟩ | ⟨h1, h2, h3, h4, h5, h6⟩
    · have hk := nxtK_bad l hne h1
      rcases nxtC_cases (l.take m) with ⟨g1, _⟩ | ⟨g1, g2, g3, g4, g5, g6⟩
      · exact ⟨by rw [g1, h1], by rw [nxtK_bad _ hne2 g1, hk]⟩
      · exfalso
        have hle : nxtK (l.take m) ≤ m := by rw [List.length_take] at g6; omega
        rw [List.take_take, Nat.min_eq_left hle] at g3
        have := only_one g2 g3 (by rw [List.length_take] at g6; omega)
        rw [h1] at this
        omega
    · have e : (l.take m).take (nxtK l) = l.take (nxtK l) := by rw [List.take_take, Nat.min_eq_left h]
      have := only_one (l := l.take m) h2 (by rw [h3, e]) (by rw [List.length_take]; omega)
      exact ⟨by rw [this.1, h1], this.2⟩
  apply Subtype.ext
  exact Prod.ext key.1 key.2

theorem chs_ne {l : List UInt8} {x : Ch} {r : List Ch} (h : chs l = x :: r) : l ≠ [] := by
  intro e; subst e; rw [chs_nil] at h; cases h
/-- the text parts where what Next tells of it parts -/
theorem chs_split (pre : List Ch) : ∀ (l : List UInt8) (rest : List Ch), chs l = pre ++ rest → rest = chs (l.drop (sumK pre)) ∧ chs (l.take (sumK pre)) = pre ∧ sumK pre ≤ l.length := by
  induction pre with
  | nil => intro l rest h; exact ⟨by rw [show sumK [] = 0 from rfl, List.drop_zero, h]; rfl, rfl, by show 0 ≤ _; omega⟩
  | cons x pre ih =>
    intro l rest h
    have hne := chs_ne (l := l) (x := x) (r := pre ++ rest) h
    have hp := nxtK_pos l hne
    rw [chs_cons l hne, List.cons_append] at h
    injection h with h1 h2
    obtain ⟨i1, i2, i3⟩ := ih _ _ h2
    have hx : x.1.2 = nxtK l := by rw [← h1]; rfl
    have hs : sumK (x :: pre) = nxtK l + sumK pre := by show x.1.2 + sumK pre = _; rw [hx]
    rw [List.length_drop] at i3
    refine ⟨by rw [hs, i1, List.drop_drop], ?_, by rw [hs]; omega⟩
    rw [hs]
    have hne2 : l.take (nxtK l + sumK pre) ≠ [] := by
      intro e
      have : (l.take (nxtK l + sumK pre)).length = 0 := by rw [e]; rfl
      rw [List.length_take] at this; omega
    have hnx := nx_take l (nxtK l + sumK pre) hne (by omega)
    have hk : nxtK (l.take (nxtK l + sumK pre)) = nxtK l := congrArg (fun y : Ch => y.1.2) hnx
    rw [chs_cons _ hne2, hnx, hk, h1]
    congr 1
    have : (l.take (nxtK l + sumK pre)).drop (nxtK l) = (l.drop (nxtK l)).take (sumK pre) := by
      rw [List.drop_take]; congr 1; omega
    rw [this]; exact i2
theorem cut_split (xs : List Ch) (m : Int) : ∀ e, ∃ pre rest, xs = pre ++ rest ∧ cutN xs m e = e + sumK pre ∧ cutN pre m e = e + sumK pre ∧ (rest = [] ∨ ∃ x r, rest = x :: r ∧ m < (e : Int) + sumK pre + x.1.2) ∧ ((e : Int) ≤ m → ((e + sumK pre : Nat) : Int) ≤ m) := by
  induction xs with
  | nil => intro e; exact ⟨[], [], rfl, by simp [cutN, sumK], by simp [cutN, sumK], .inl rfl, fun h => by simpa [sumK] using h⟩
  | cons x r ih =>
    intro e
    by_cases h : m < (e : Int) + x.1.2
    · exact ⟨[], x :: r, rfl, by simp [cutN, sumK, h], by simp [cutN, sumK], .inr ⟨x, r, rfl, by simpa [sumK] using h⟩, fun h => by simpa [sumK] using h⟩
    · obtain ⟨pre, rest, h1, h2, h3, h4, h5⟩ := ih (e + x.1.2)
      refine ⟨x :: pre, rest, by rw [h1]; rfl, ?_, ?_, ?_, ?_⟩
      · simp only [cutN, if_neg h, sumK]; rw [h2]; omega
      · simp only [cutN, if_neg h, sumK]; rw [h3]; omega
      · rcases h4 with h4 | ⟨y, r', h6, h7⟩
        · exact .inl h4
        · exact .inr ⟨y, r', h6, by simp only [sumK]; omega⟩
      · intro h8
        have := h5 (by omega)
        simp only [sumK]; omega
theorem cut_facts (l : List UInt8) (m : Int) (hm : 0 ≤ m) : ∃ q, cutN (chs l) m 0 = q ∧ (q : Int) ≤ m ∧ q ≤ l.length ∧ (q = l.length ∨ m - q < nxtK (l.drop q)) ∧ cutN (chs (l.take q)) m 0 = q ∧ (chs (l.take q)).length + (chs (l.drop q)).length = (chs l).length ∧ (okB l = true → okB (l.take q) = true) := by
  obtain ⟨pre, rest, h1, h2, h3, h4, h5⟩ := cut_split (chs l) m 0
  rw [Nat.zero_add] at h2 h3 h5
  obtain ⟨g1, g2, g3⟩ := chs_split pre l rest h1
  refine ⟨sumK pre, h2, h5 hm, g3, ?_, by rw [g2]; exact h3, by rw [g2, ← g1, h1, List.length_append], ?_⟩
  · rcases h4 with h4 | ⟨x, r, h6, h7⟩
    · left
      have := sumK_chs l
      rw [h1, h4, List.append_nil] at this; exact this
    · right
      rw [h6] at g1
      have hne := chs_ne g1.symm
      rw [chs_cons _ hne] at g1
      injection g1 with g4 g5
      have : x.1.2 = nxtK (l.drop (sumK pre)) := by rw [g4]; rfl
      rw [← this]; omega
  · intro hok
    unfold okB at hok ⊢
    rw [g2]
    rw [h1, List.all_append, Bool.and_eq_true] at hok
    exact hok.1
theorem lowU_lowU (b : UInt8) : lowU (lowU b) = lowU b := by
  by_cases h : 65 ≤ b.toNat ∧ b.toNat ≤ 90
  · have := lowU_in b h.1 h.2
    exact lowU_out _ (by omega)
  · rw [lowU_out b h, lowU_out b h]
theorem lowL_lowL (l : List UInt8) : lowL (lowL l) = lowL l := by
  unfold lowL; rw [List.map_map]; congr 1; funext b; exact lowU_lowU b

/-- characters that were laid are read -/
theorem encs_read (cs : List Int) (h : ∀ c ∈ cs, isChB c = true) : okB (encs cs) = true ∧ (chs (encs cs)).map (fun y => y.1.1) = cs := by
  induction cs with
  | nil => exact ⟨rfl, rfl⟩
  | cons c r ih =>
    have hc := h c (List.mem_cons_self)
    obtain ⟨h1, h2, h3, _⟩ := isChB_of c hc
    obtain ⟨i1, i2⟩ := ih (fun x hx => h x (List.mem_cons_of_mem _ hx))
    have e : encs (c :: r) = enc c.toNat ++ encs r := by unfold encs; rw [List.flatMap_cons]
    have hne : encs (c :: r) ≠ [] := by
      rw [e]; intro e2
      have := enc_pos c.toNat
      rw [List.append_eq_nil_iff] at e2
      rw [e2.1] at this; simp at this
    have hn := nxt_enc c.toNat h2 (encs r)
    rw [← e] at hn
    have hd : (encs (c :: r)).drop (nxtK (encs (c :: r))) = encs r := by rw [hn.2, e, List.drop_left]
    have hx : (nx (encs (c :: r))).1.1 = c := by show nxtC _ = _; rw [hn.1, h3]
    have hch := chs_cons _ hne
    rw [hd] at hch
    constructor
    · unfold okB
      rw [hch, List.all_cons, hx]
      unfold okB at i1
      rw [i1]
      simp; omega
    · rw [hch, List.map_cons, i2, hx]
theorem back_one (cs : List Int) (h : ∀ c ∈ cs, isChB c = true) : okE (encs cs) = 0 ∧ allL (encs cs) = cs ∧ (chs (encs cs)).length = cs.length := by
  obtain ⟨h1, h2⟩ := encs_read cs h
  refine ⟨by unfold okE; rw [if_pos h1], by unfold allL; rw [if_pos h1, h2], ?_⟩
  have := congrArg List.length h2
  rw [List.length_map] at this; exact this
/-- what was read is laid as it was -/
theorem back_two (l : List UInt8) (h : okB l = true) : (∀ c ∈ allL l, isChB c = true) ∧ encs (allL l) = l ∧ (allL l).length = (chs l).length := by
  have e : allL l = (chs l).map fun y => y.1.1 := by unfold allL; rw [if_pos h]
  rw [e]
  refine ⟨?_, ?_, by rw [List.length_map]⟩
  · clear e
    obtain ⟨n, hn⟩ : ∃ n, n = l.length := ⟨_, rfl⟩
    induction n using Nat.strongRecOn generalizing l with
    | _ n ih =>
      by_cases hl : l = []
      · subst hl; intro c hc; cases hc
      · have hp := nxtK_pos l hl
        unfold okB at h
        rw [chs_cons l hl, List.all_cons, Bool.and_eq_true] at h
        rw [chs_cons l hl, List.map_cons]
        intro c hc
        rcases List.mem_cons.1 hc with rfl | hc
        · rcases nxtC_cases l with ⟨g1, _⟩ | ⟨g1, g2, _⟩
          · have := h.1
            have e1 : (nx l).1.1 = -1 := g1
            rw [e1] at this; simp at this
          · show isChB (nxtC l) = true
            rw [g1]; exact isChB_nat _ g2
        · exact ih (l.drop (nxtK l)).length (by rw [List.length_drop]; omega) _ h.2 rfl c hc
  · clear e
    obtain ⟨n, hn⟩ : ∃ n, n = l.length := ⟨_, rfl⟩
    induction n using Nat.strongRecOn generalizing l with
    | _ n ih =>
      by_cases hl : l = []
      · subst hl; rfl
      · have hp := nxtK_pos l hl
        unfold okB at h
        rw [chs_cons l hl, List.all_cons, Bool.and_eq_true] at h
        rw [chs_cons l hl, List.map_cons]
        have i := ih (l.drop (nxtK l)).length (by rw [List.length_drop]; omega) _ h.2 rfl
        unfold encs at i ⊢
        rw [List.flatMap_cons, i]
        rcases nxtC_cases l with ⟨g1, _⟩ | ⟨g1, g2, g3, _⟩
        · have := h.1
          have e1 : (nx l).1.1 = -1 := g1
          rw [e1] at this; simp at this
        · show enc (nxtC l).toNat ++ _ = _
          rw [g1, Int.toNat_natCast, g3, List.take_append_drop]
end Go.Proofs.YtbabgcemkiakmaaDoor
