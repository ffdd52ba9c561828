/- Layer 14, the document's: a source's bucket, and where it stands; its level, its wait. -/
import Derived.Test.YtpmabkegjdjodaaS14B
import Derived.Deep.DeepCutAuto
namespace Go.Proofs.Ytpmabkegjdjodaa
open Go.RowKit
set_option linter.unusedVariables false
set_option linter.unusedSimpArgs false

theorem fil_all {α : Type} {f : α → Bool} {l : List α} (h : ∀ x ∈ l, f x = true) : l.filter f = l := List.filter_eq_self.2 h
theorem fil_non {α : Type} {f : α → Bool} {l : List α} (h : ∀ x ∈ l, f x = false) : l.filter f = [] := List.filter_eq_nil_iff.2 (fun x hx => by rw [h x hx]; decide)
/-- where a source stands, or would stand -/
structure Cut14 (L : List En) (s : Int) (k : Nat) : Prop where
  le : k ≤ L.length
  lo : lowS L s = L.take k
  is : ∀ (hk : k < L.length), L[k].1 = s → getS L s = some L[k] ∧ higS L s = L.drop (k + 1)
  no : (∀ (hk : k < L.length), L[k].1 ≠ s) → getS L s = none ∧ higS L s = L.drop k
theorem cut_of {L : List En} {s : Int} {k : Nat} (ha : L.Pairwise (fun a b => a.1 < b.1)) (hk : k ≤ L.length) (h1 : ∀ j (hj : j < L.length), j < k → L[j].1 < s) (h2 : ∀ (h : k < L.length), ¬ L[k].1 < s) : Cut14 L s k := by
  have hp := List.pairwise_iff_getElem.1 ha
  have ht : ∀ x ∈ L.take k, x.1 < s := by
    intro x hx
    obtain ⟨j, hj, rfl⟩ := List.mem_take_iff_getElem.1 hx
    exact h1 j (by omega) (by omega)
  have hd : ∀ x ∈ L.drop k, ¬ x.1 < s := by
    intro x hx
    obtain ⟨j, hj, rfl⟩ := List.mem_drop_iff_getElem.1 hx
    have hkl : k < L.length := by omega
    have h3 := h2 hkl
    cases j with
    | zero => exact h3
    | succ j =>
      have := hp k (k + (j + 1)) hkl (by omega) (by omega)
      intro hc
      omega
  have hd' : ∀ x ∈ L.drop (k + 1), ∀ (hkl : k < L.length), L[k].1 < x.1 := by
    intro x hx hkl
    obtain ⟨j, hj, rfl⟩ := List.mem_drop_iff_getElem.1 hx
    exact hp k (k + 1 + j) hkl (by omega) (by omega)
  have e : L = L.take k ++ L.drop k := (List.take_append_drop k L).symm
  have hlo : lowS L s = L.take k := by
    unfold lowS
    conv => lhs; rw [e]
    rw [List.filter_append, fil_all (fun x hx => decide_eq_true (ht x hx)), fil_non (fun x hx => decide_eq_false (hd x hx)), List.append_nil]
  have hhi : higS L s = (L.drop k).filter fun x => decide (s < x.1) := by
    unfold higS
    conv => lhs; rw [e]
    rw [List.filter_append, fil_non (fun x hx => decide_eq_false (by have := ht x hx; omega)), List.nil_append]
  have hgt : getS L s = (L.drop k).find? fun x => decide (x.1 = s) := by
    unfold getS
    conv => lhs; rw [e]
    rw [List.find?_append, List.find?_eq_none.2 (fun x hx => by have := ht x hx; simp; omega)]
    simp
  refine ⟨hk, hlo, fun hkl hs => ?_, fun hn => ?_⟩
  · rw [hgt, hhi, List.drop_eq_getElem_cons hkl]
    refine ⟨by rw [List.find?_cons_of_pos (by simpa using hs)], ?_⟩
    rw [List.filter_cons_of_neg (by simp; omega), fil_all (fun x hx => decide_eq_true (by have := hd' x hx hkl; omega))]
  · rw [hgt, hhi]
    have hne : ∀ x ∈ L.drop k, s < x.1 := by
      intro x hx
      have h3 := hd x hx
      obtain ⟨j, hj, rfl⟩ := List.mem_drop_iff_getElem.1 hx
      have hkl : k < L.length := by omega
      cases j with
      | zero => have := hn hkl; simp only [Nat.add_zero] at h3 ⊢; omega
      | succ j =>
        have h4 := hp k (k + (j + 1)) hkl (by omega) (by omega)
        have h5 := h2 hkl
        omega
    exact ⟨List.find?_eq_none.2 (fun x hx => by have := hne x hx; simp; omega), fil_all (fun x hx => decide_eq_true (hne x hx))⟩
theorem Cut14.len {L : List En} {s : Int} {k : Nat} (h : Cut14 L s k) : (lowS L s).length = k := by rw [h.lo, List.length_take, Nat.min_eq_left h.le]
set_option maxRecDepth 100000 in
set_option maxHeartbeats 4000000 in
theorem rfof_any (B R : Int) (v : Value) (L : List En) (s now : Int) (w : World) (hv : IsR 3 enC w v L) (hl : L.length ≤ 1000000) (ha : L.Pairwise (fun a b => a.1 < b.1)) :
    Calls Try.prog 34 #[twV B R, v, .int .i64 s, .int .i64 now] w fun e w' => e = .returned (.tuple #[twV (bukS B L s now).1 (bukS B L s now).2, .int .i64 ((lowS L s).length : Int), .bool (getS L s).isSome]) ∧ Below w.heap.size w w' := by
  obtain ⟨p, cap, rfl, -, hp⟩ := hv
  have HP := Lib.hid hp
  have HA := Lib.hid ha
  clear hp ha
  have cF := Lib.hid (fun W => bdfull_any B R now W)
  have X0 : Hid (∀ t t', Bx2 ((w.alloc (.cells #[.int .i64 B, .int .i64 R] t)).alloc (.cells #[.int .i64 0, .int .i64 0] t')) w.heap.size B R ∧ Rw2 ((w.alloc (.cells #[.int .i64 B, .int .i64 R] t)).alloc (.cells #[.int .i64 0, .int .i64 0] t')) (w.heap.size + 1) 0 0) := Lib.hid (fun t t' => by simp [Rw2, Bx2, go_sem])
  simp only [twV] at *
  go_enter Try.func34, Try.ntmps34
  go_upto_region 1 with fail
  refine gen_world (F := fun W => (Bx2 W w.heap.size B R ∧ Rw2 W (w.heap.size + 1) 0 0) ∧ Below w.heap.size w W ∧ w.heap.size + 2 ≤ W.heap.size) ⟨X0.out _ _, by (repeat (first | (with_reducible exact Below.refl _ _) | ((with_reducible refine below_alloc ?_ ?_ _); · (first | omega | (simp; done) | (simp; omega))) | ((with_reducible refine below_setCell ?_ ?_ _); · (first | omega | (simp; done) | (simp; omega))) | (with_reducible refine Below.drew ?_) | (with_reducible refine below_drewN ?_ _) | ((with_reducible refine below_call (by assumption) ?_ ?_); · (first | omega | (simp; done) | (simp; omega))))), by simp⟩ (fun wt hF => ?_)
  obtain ⟨⟨X, Z⟩, hB0, hz⟩ := hF
  clear X0
  go_wp2
  go_loopw [11] (fun i wr => ∃ k : Nat, i = .int .i64 k ∧ k ≤ L.length ∧ (∀ j (hj : j < L.length), j < k → L[j].1 < s) ∧ wr = wt) (fun i _ => L.length - (intOf i).toNat)
  case atStart => exact ⟨0, rfl, Nat.zero_le _, fun j _ hj => by omega, rfl⟩
  case round =>
    obtain ⟨k, rfl, hk, hok, rfl⟩ := hrel
    have HO := Lib.hid hok
    clear hok
    by_cases hlt : k < L.length
    · have hlt' : (k : Int) < L.length := by omega
      obtain ⟨b, off, rfl, g⟩ := HP.out k hlt
      have g3 := (en3_of g).far hB0
      have HG := Lib.hid (show L[k].1 < s → ∀ j (hj : j < L.length), j < k + 1 → L[j].1 < s from fun h j hj hjk => by
        by_cases e : j = k
        · subst e; exact h
        · exact HO.out j hj (by omega))
      have HC := Lib.hid (fun h => cut_of (s := s) HA.out hk HO.out h)
      obtain ⟨⟨q, T, A⟩, he⟩ : ∃ e, L[k] = e := ⟨_, rfl⟩
      rw [he] at g3 HG
      obtain ⟨d0, d1, d2⟩ := g3
      simp only at d0 d1 d2 HG
      have HE := Lib.hid he
      clear g he
      by_cases hq : q < s
      · clear HC
        go_wp2
        go_roundw
        case rel => exact ⟨k + 1, by go_num, by omega, HG.out hq, by first | rfl | trivial⟩
        case measure => simp [intOf]; omega
      · have HC2 := Lib.hid (HC.out (fun h => by rw [HE.out]; exact hq))
        have hq' : s ≤ q := by omega
        clear HG HC
        by_cases hqs : q = s
        · subst hqs
          obtain ⟨e1, e2⟩ := HC2.out.is hlt (by rw [HE.out])
          have hb1 : bukS B L q now = (T, A) := by unfold bukS; rw [e1, HE.out]
          have HR := Lib.hid (And.intro hb1 (And.intro HC2.out.len (show (getS L q).isSome = true by rw [e1]; rfl)))
          clear e1 e2 hb1
          obtain ⟨⟨z0, z1⟩, y0, y1⟩ := Z
          go_wp2
          refine bodyPost_ret (v := .tuple #[.agg #[.int .i64 T, .int .i64 A], .int .i64 k, .bool true]) (by simp [results, Try.results34, go_sem, z0, z1]) rfl ⟨by rw [HR.out.1, HR.out.2.1, HR.out.2.2], by (repeat (first | (with_reducible exact Below.refl _ _) | ((with_reducible refine below_alloc ?_ ?_ _); · (first | omega | (simp; done) | (simp; omega))) | ((with_reducible refine below_setCell ?_ ?_ _); · (first | omega | (simp; done) | (simp; omega))) | (with_reducible refine Below.drew ?_) | (with_reducible refine below_drewN ?_ _) | ((with_reducible refine below_call (by assumption) ?_ ?_); · (first | omega | (simp; done) | (simp; omega)))))⟩
        · obtain ⟨e1, e2⟩ := HC2.out.no (fun h => by rw [HE.out]; exact hqs)
          have hb1 : bukS B L s now = (B, hldN now 0 1099511627776) := by unfold bukS; rw [e1]
          have HR := Lib.hid (And.intro hb1 (And.intro HC2.out.len (show (getS L s).isSome = false by rw [e1]; rfl)))
          have hqf : (q == s) = false := by simp [hqs]
          generalize hldN now 0 1099511627776 = h at cF HR
          clear e1 e2 hb1
          obtain ⟨x0, x1⟩ := id X
          go_wp2_with fail
          refine (cF.out _).mono ?_; rintro e w2 ⟨rfl, hb2⟩
          obtain ⟨⟨z0, z1⟩, y0, y1⟩ := Z.call hb2
          have B2 := hB0.trans (hb2.mono hB0.size)
          go_wp2
          refine bodyPost_ret (v := .tuple #[.agg #[.int .i64 B, .int .i64 h], .int .i64 k, .bool false]) (by simp [results, Try.results34, go_sem, z0, z1]) rfl ⟨by rw [HR.out.1, HR.out.2.1, HR.out.2.2], by (repeat (first | (with_reducible exact Below.refl _ _) | ((with_reducible refine below_alloc ?_ ?_ _); · (first | omega | (simp; done) | (simp; omega))) | ((with_reducible refine below_setCell ?_ ?_ _); · (first | omega | (simp; done) | (simp; omega))) | (with_reducible refine Below.drew ?_) | (with_reducible refine below_drewN ?_ _) | ((with_reducible refine below_call (by assumption) ?_ ?_); · (first | omega | (simp; done) | (simp; omega)))))⟩
    · obtain rfl : k = L.length := by omega
      have HC2 := Lib.hid (cut_of (s := s) HA.out hk HO.out (fun h => absurd h (by omega)))
      obtain ⟨e1, e2⟩ := HC2.out.no (fun h => absurd h (by omega))
      have hb1 : bukS B L s now = (B, hldN now 0 1099511627776) := by unfold bukS; rw [e1]
      have HR := Lib.hid (And.intro hb1 (And.intro HC2.out.len (show (getS L s).isSome = false by rw [e1]; rfl)))
      generalize hldN now 0 1099511627776 = h at cF HR
      clear e1 e2 hb1
      obtain ⟨x0, x1⟩ := id X
      go_wp2_with fail
      refine (cF.out _).mono ?_; rintro e w2 ⟨rfl, hb2⟩
      obtain ⟨⟨z0, z1⟩, y0, y1⟩ := Z.call hb2
      have B2 := hB0.trans (hb2.mono hB0.size)
      go_wp2
      refine bodyPost_ret (v := .tuple #[.agg #[.int .i64 B, .int .i64 h], .int .i64 L.length, .bool false]) (by simp [results, Try.results34, go_sem, z0, z1]) rfl ⟨by rw [HR.out.1, HR.out.2.1, HR.out.2.2], by (repeat (first | (with_reducible exact Below.refl _ _) | ((with_reducible refine below_alloc ?_ ?_ _); · (first | omega | (simp; done) | (simp; omega))) | ((with_reducible refine below_setCell ?_ ?_ _); · (first | omega | (simp; done) | (simp; omega))) | (with_reducible refine Below.drew ?_) | (with_reducible refine below_drewN ?_ _) | ((with_reducible refine below_call (by assumption) ?_ ?_); · (first | omega | (simp; done) | (simp; omega)))))⟩
set_option maxRecDepth 100000 in
set_option maxHeartbeats 4000000 in
theorem rflevel14_any (B R : Int) (v : Value) (L : List En) (s now : Int) (w : World) (hv : IsR 3 enC w v L) (hl : L.length ≤ 1000000) :
    Calls Try.prog 13 #[twV B R, v, .int .i64 s, .int .i64 now] w fun e w' => e = .returned (.int .i64 (lvS14 B R L s now)) ∧ Below w.heap.size w w' := by
  have HV := Lib.hid hv
  obtain ⟨p, cap, rfl, -, hp⟩ := hv
  clear hp
  have c0 := Lib.hid (fun W (hb : Below w.heap.size w W) => rfcheck14_any B R _ L W (HV.out.call hb) hl)
  have cM := Lib.hid (fun W => rfmay_any s W)
  have X0 : Hid (∀ t, Bx2 (w.alloc (.cells #[.int .i64 B, .int .i64 R] t)) w.heap.size B R) := Lib.hid (fun t => by simp [Bx2, go_sem])
  by_cases hc : chkS14 B R L = 0
  case neg =>
    have HQ : Hid (lvS14 B R L s now = 0) := Lib.hid (by unfold lvS14; rw [if_pos (.inl hc)])
    have e0 : (chkS14 B R L != 0) = true := by simp [hc]
    generalize chkS14 B R L = E at c0 e0
    simp only [twV] at *
    clear hc
    go_enter Try.func13, Try.ntmps13
    go_wp2_with fail
    refine (c0.out _ (by (repeat (first | (with_reducible exact Below.refl _ _) | ((with_reducible refine below_alloc ?_ ?_ _); · (first | omega | (simp; done) | (simp; omega))) | ((with_reducible refine below_setCell ?_ ?_ _); · (first | omega | (simp; done) | (simp; omega))) | (with_reducible refine Below.drew ?_) | (with_reducible refine below_drewN ?_ _) | ((with_reducible refine below_call (by assumption) ?_ ?_); · (first | omega | (simp; done) | (simp; omega))))))).mono ?_; rintro e w1 ⟨rfl, hb1⟩
    have B1 : Below w.heap.size w w1 := by (repeat (first | (with_reducible exact Below.refl _ _) | ((with_reducible refine below_alloc ?_ ?_ _); · (first | omega | (simp; done) | (simp; omega))) | ((with_reducible refine below_setCell ?_ ?_ _); · (first | omega | (simp; done) | (simp; omega))) | (with_reducible refine Below.drew ?_) | (with_reducible refine below_drewN ?_ _) | ((with_reducible refine below_call (by assumption) ?_ ?_); · (first | omega | (simp; done) | (simp; omega)))))
    go_wp2
    go_ret
    exact ⟨ret_int HQ.out.symm, B1⟩
  cases hm : mayS s with
  | false =>
    have HQ : Hid (lvS14 B R L s now = 0) := Lib.hid (by unfold lvS14; rw [if_pos (.inr hm)])
    rw [hc] at c0
    rw [hm] at cM
    simp only [twV] at *
    clear hc hm
    go_enter Try.func13, Try.ntmps13
    go_wp2_with fail
    refine (c0.out _ (by (repeat (first | (with_reducible exact Below.refl _ _) | ((with_reducible refine below_alloc ?_ ?_ _); · (first | omega | (simp; done) | (simp; omega))) | ((with_reducible refine below_setCell ?_ ?_ _); · (first | omega | (simp; done) | (simp; omega))) | (with_reducible refine Below.drew ?_) | (with_reducible refine below_drewN ?_ _) | ((with_reducible refine below_call (by assumption) ?_ ?_); · (first | omega | (simp; done) | (simp; omega))))))).mono ?_; rintro e w1 ⟨rfl, hb1⟩
    have B1 : Below w.heap.size w w1 := by (repeat (first | (with_reducible exact Below.refl _ _) | ((with_reducible refine below_alloc ?_ ?_ _); · (first | omega | (simp; done) | (simp; omega))) | ((with_reducible refine below_setCell ?_ ?_ _); · (first | omega | (simp; done) | (simp; omega))) | (with_reducible refine Below.drew ?_) | (with_reducible refine below_drewN ?_ _) | ((with_reducible refine below_call (by assumption) ?_ ?_); · (first | omega | (simp; done) | (simp; omega)))))
    go_wp2_with fail
    refine (cM.out _).mono ?_; rintro e w2 ⟨rfl, rfl⟩
    go_wp2
    go_ret
    exact ⟨ret_int HQ.out.symm, B1⟩
  | true =>
    have HQ : Hid (lvS14 B R L s now = lvlN B R (bukS B L s now).1 (bukS B L s now).2 now) := Lib.hid (by unfold lvS14; rw [if_neg (by rintro (q | q); exact q hc; rw [hm] at q; cases q)])
    have cO := Lib.hid (fun W (hb : Below w.heap.size w W) => rfof_any B R _ L s now W (HV.out.call hb) hl (chk_iff.1 hc).2.2.2)
    have cL := Lib.hid (fun W => bdlevel_any B R (bukS B L s now).1 (bukS B L s now).2 now W)
    rw [hc] at c0
    rw [hm] at cM
    simp only [twV] at *
    generalize (bukS B L s now).1 = T at cO cL HQ
    generalize (bukS B L s now).2 = A at cO cL HQ
    generalize ((lowS L s).length : Int) = k at cO
    generalize (getS L s).isSome = is at cO
    clear hc hm
    go_enter Try.func13, Try.ntmps13
    go_wp2_with fail
    refine (c0.out _ (by (repeat (first | (with_reducible exact Below.refl _ _) | ((with_reducible refine below_alloc ?_ ?_ _); · (first | omega | (simp; done) | (simp; omega))) | ((with_reducible refine below_setCell ?_ ?_ _); · (first | omega | (simp; done) | (simp; omega))) | (with_reducible refine Below.drew ?_) | (with_reducible refine below_drewN ?_ _) | ((with_reducible refine below_call (by assumption) ?_ ?_); · (first | omega | (simp; done) | (simp; omega))))))).mono ?_; rintro e w1 ⟨rfl, hb1⟩
    have B1 : Below w.heap.size w w1 := by (repeat (first | (with_reducible exact Below.refl _ _) | ((with_reducible refine below_alloc ?_ ?_ _); · (first | omega | (simp; done) | (simp; omega))) | ((with_reducible refine below_setCell ?_ ?_ _); · (first | omega | (simp; done) | (simp; omega))) | (with_reducible refine Below.drew ?_) | (with_reducible refine below_drewN ?_ _) | ((with_reducible refine below_call (by assumption) ?_ ?_); · (first | omega | (simp; done) | (simp; omega)))))
    have X1 := (X0.out _).call hb1
    go_wp2_with fail
    refine (cM.out _).mono ?_; rintro e w2 ⟨rfl, rfl⟩
    obtain ⟨x0, x1⟩ := id X1
    go_wp2_with fail
    refine (cO.out _ B1).mono ?_; rintro e w3 ⟨rfl, hb3⟩
    have B3 := B1.trans (hb3.mono B1.size)
    obtain ⟨y0, y1⟩ := X1.call hb3
    have hz3 : w.heap.size < w3.heap.size := Nat.lt_of_lt_of_le X1.lt hb3.size
    have hn3 : w.heap.size ≠ w3.heap.size := by omega
    clear x0 x1
    go_wp2_with fail
    refine (cL.out _).mono ?_; rintro e w4 ⟨rfl, hb4⟩
    have B4 : Below w.heap.size w w4 := by (repeat (first | (with_reducible exact Below.refl _ _) | ((with_reducible refine below_alloc ?_ ?_ _); · (first | omega | (simp; done) | (simp; omega))) | ((with_reducible refine below_setCell ?_ ?_ _); · (first | omega | (simp; done) | (simp; omega))) | (with_reducible refine Below.drew ?_) | (with_reducible refine below_drewN ?_ _) | ((with_reducible refine below_call (by assumption) ?_ ?_); · (first | omega | (simp; done) | (simp; omega)))))
    go_wp2
    go_ret
    exact ⟨ret_int HQ.out.symm, B4⟩
set_option maxRecDepth 100000 in
set_option maxHeartbeats 4000000 in
theorem rfwait14_any (B R : Int) (v : Value) (L : List En) (s now : Int) (w : World) (hv : IsR 3 enC w v L) (hl : L.length ≤ 1000000) :
    Calls Try.prog 15 #[twV B R, v, .int .i64 s, .int .i64 now] w fun e w' => e = .returned (.int .i64 (wtS14 B R L s now)) ∧ Below w.heap.size w w' := by
  have HV := Lib.hid hv
  obtain ⟨p, cap, rfl, -, hp⟩ := hv
  clear hp
  have c0 := Lib.hid (fun W (hb : Below w.heap.size w W) => rfcheck14_any B R _ L W (HV.out.call hb) hl)
  have cM := Lib.hid (fun W => rfmay_any s W)
  have X0 : Hid (∀ t, Bx2 (w.alloc (.cells #[.int .i64 B, .int .i64 R] t)) w.heap.size B R) := Lib.hid (fun t => by simp [Bx2, go_sem])
  by_cases hc : chkS14 B R L = 0
  case neg =>
    have HQ : Hid (wtS14 B R L s now = -1) := Lib.hid (by unfold wtS14; rw [if_pos (.inl hc)])
    have e0 : (chkS14 B R L != 0) = true := by simp [hc]
    generalize chkS14 B R L = E at c0 e0
    simp only [twV] at *
    clear hc
    go_enter Try.func15, Try.ntmps15
    go_wp2_with fail
    refine (c0.out _ (by (repeat (first | (with_reducible exact Below.refl _ _) | ((with_reducible refine below_alloc ?_ ?_ _); · (first | omega | (simp; done) | (simp; omega))) | ((with_reducible refine below_setCell ?_ ?_ _); · (first | omega | (simp; done) | (simp; omega))) | (with_reducible refine Below.drew ?_) | (with_reducible refine below_drewN ?_ _) | ((with_reducible refine below_call (by assumption) ?_ ?_); · (first | omega | (simp; done) | (simp; omega))))))).mono ?_; rintro e w1 ⟨rfl, hb1⟩
    have B1 : Below w.heap.size w w1 := by (repeat (first | (with_reducible exact Below.refl _ _) | ((with_reducible refine below_alloc ?_ ?_ _); · (first | omega | (simp; done) | (simp; omega))) | ((with_reducible refine below_setCell ?_ ?_ _); · (first | omega | (simp; done) | (simp; omega))) | (with_reducible refine Below.drew ?_) | (with_reducible refine below_drewN ?_ _) | ((with_reducible refine below_call (by assumption) ?_ ?_); · (first | omega | (simp; done) | (simp; omega)))))
    go_wp2
    go_ret
    exact ⟨ret_int HQ.out.symm, B1⟩
  cases hm : mayS s with
  | false =>
    have HQ : Hid (wtS14 B R L s now = -1) := Lib.hid (by unfold wtS14; rw [if_pos (.inr hm)])
    rw [hc] at c0
    rw [hm] at cM
    simp only [twV] at *
    clear hc hm
    go_enter Try.func15, Try.ntmps15
    go_wp2_with fail
    refine (c0.out _ (by (repeat (first | (with_reducible exact Below.refl _ _) | ((with_reducible refine below_alloc ?_ ?_ _); · (first | omega | (simp; done) | (simp; omega))) | ((with_reducible refine below_setCell ?_ ?_ _); · (first | omega | (simp; done) | (simp; omega))) | (with_reducible refine Below.drew ?_) | (with_reducible refine below_drewN ?_ _) | ((with_reducible refine below_call (by assumption) ?_ ?_); · (first | omega | (simp; done) | (simp; omega))))))).mono ?_; rintro e w1 ⟨rfl, hb1⟩
    have B1 : Below w.heap.size w w1 := by (repeat (first | (with_reducible exact Below.refl _ _) | ((with_reducible refine below_alloc ?_ ?_ _); · (first | omega | (simp; done) | (simp; omega))) | ((with_reducible refine below_setCell ?_ ?_ _); · (first | omega | (simp; done) | (simp; omega))) | (with_reducible refine Below.drew ?_) | (with_reducible refine below_drewN ?_ _) | ((with_reducible refine below_call (by assumption) ?_ ?_); · (first | omega | (simp; done) | (simp; omega)))))
    go_wp2_with fail
    refine (cM.out _).mono ?_; rintro e w2 ⟨rfl, rfl⟩
    go_wp2
    go_ret
    exact ⟨ret_int HQ.out.symm, B1⟩
  | true =>
    have HQ : Hid (wtS14 B R L s now = waitN B R (bukS B L s now).1 (bukS B L s now).2 now 1) := Lib.hid (by unfold wtS14; rw [if_neg (by rintro (q | q); exact q hc; rw [hm] at q; cases q)])
    have cO := Lib.hid (fun W (hb : Below w.heap.size w W) => rfof_any B R _ L s now W (HV.out.call hb) hl (chk_iff.1 hc).2.2.2)
    have cL := Lib.hid (fun W => bdwait_any B R (bukS B L s now).1 (bukS B L s now).2 now 1 W)
    rw [hc] at c0
    rw [hm] at cM
    simp only [twV] at *
    generalize (bukS B L s now).1 = T at cO cL HQ
    generalize (bukS B L s now).2 = A at cO cL HQ
    generalize ((lowS L s).length : Int) = k at cO
    generalize (getS L s).isSome = is at cO
    clear hc hm
    go_enter Try.func15, Try.ntmps15
    go_wp2_with fail
    refine (c0.out _ (by (repeat (first | (with_reducible exact Below.refl _ _) | ((with_reducible refine below_alloc ?_ ?_ _); · (first | omega | (simp; done) | (simp; omega))) | ((with_reducible refine below_setCell ?_ ?_ _); · (first | omega | (simp; done) | (simp; omega))) | (with_reducible refine Below.drew ?_) | (with_reducible refine below_drewN ?_ _) | ((with_reducible refine below_call (by assumption) ?_ ?_); · (first | omega | (simp; done) | (simp; omega))))))).mono ?_; rintro e w1 ⟨rfl, hb1⟩
    have B1 : Below w.heap.size w w1 := by (repeat (first | (with_reducible exact Below.refl _ _) | ((with_reducible refine below_alloc ?_ ?_ _); · (first | omega | (simp; done) | (simp; omega))) | ((with_reducible refine below_setCell ?_ ?_ _); · (first | omega | (simp; done) | (simp; omega))) | (with_reducible refine Below.drew ?_) | (with_reducible refine below_drewN ?_ _) | ((with_reducible refine below_call (by assumption) ?_ ?_); · (first | omega | (simp; done) | (simp; omega)))))
    have X1 := (X0.out _).call hb1
    go_wp2_with fail
    refine (cM.out _).mono ?_; rintro e w2 ⟨rfl, rfl⟩
    obtain ⟨x0, x1⟩ := id X1
    go_wp2_with fail
    refine (cO.out _ B1).mono ?_; rintro e w3 ⟨rfl, hb3⟩
    have B3 := B1.trans (hb3.mono B1.size)
    obtain ⟨y0, y1⟩ := X1.call hb3
    have hz3 : w.heap.size < w3.heap.size := Nat.lt_of_lt_of_le X1.lt hb3.size
    have hn3 : w.heap.size ≠ w3.heap.size := by omega
    clear x0 x1
    go_wp2_with fail
    refine (cL.out _).mono ?_; rintro e w4 ⟨rfl, hb4⟩
    have B4 : Below w.heap.size w w4 := by (repeat (first | (with_reducible exact Below.refl _ _) | ((with_reducible refine below_alloc ?_ ?_ _); · (first | omega | (simp; done) | (simp; omega))) | ((with_reducible refine below_setCell ?_ ?_ _); · (first | omega | (simp; done) | (simp; omega))) | (with_reducible refine Below.drew ?_) | (with_reducible refine below_drewN ?_ _) | ((with_reducible refine below_call (by assumption) ?_ ?_); · (first | omega | (simp; done) | (simp; omega)))))
    go_wp2
    go_ret
    exact ⟨ret_int HQ.out.symm, B4⟩
/-- a piece of a row that can be read -/
theorem isR_sub {α : Type} {z : Nat} {cs : α → List Value} {w : World} {l : List α} {b off : Nat} (h : ∀ j (hj : j < l.length) c u, (cs l[j])[c]? = some u → w.cell? ⟨b, off + j * z + c, none⟩ = some u) {i n cap o : Nat} (hin : i + n ≤ l.length) (ho : o = off + i * z) :
    IsR z cs w (.slice (some ⟨b, o, none⟩) n cap) ((l.drop i).take n) := by
  subst ho
  have e : ((l.drop i).take n).length = n := by rw [List.length_take, List.length_drop]; omega
  refine ⟨some ⟨b, off + i * z, none⟩, cap, by rw [e], (fun h => by cases h), fun j hj => ⟨b, off + i * z, rfl, fun c u hu => ?_⟩⟩
  rw [List.getElem_take, List.getElem_drop] at hu
  have := h (i + j) (by omega) c u hu
  rw [Nat.add_mul] at this
  rw [← Nat.add_assoc] at this
  exact this
end Go.Proofs.Ytpmabkegjdjodaa
