/- Plain mathematics of lists by links: a state that may be holds its lists, and the other way round; a place put behind a list, and taken out. -/
import Derived.Test.YtkcenadenmkgnaaC5M
import Derived.Test.YtkcenadenmkgnaaC4H
namespace Go.Proofs.Ytkcenadenmkgnaa
open Go.RowKit
set_option linter.unusedVariables false
set_option linter.unusedSimpArgs false

theorem links_nodAt {st : LSt} (h : linksB st = true) {j : Nat} (hj : j < st.1.length) : (-1 ≤ (nodAt st.1 j).1 ∧ (nodAt st.1 j).1 < st.2.1.length) ∧ (-1 ≤ (nodAt st.1 j).2.1 ∧ (nodAt st.1 j).2.1 < st.1.length) ∧ (-1 ≤ (nodAt st.1 j).2.2 ∧ (nodAt st.1 j).2.2 < st.1.length) := by
  rw [nodAt_lt _ _ hj]; exact links_nod h hj
theorem rightB_parts {st : LSt} {i : Nat} (h : rightB st i = true) : (walkN st i).length = cntN st.1 i ∧ prevOk st.1 i (-1) (walkN st i) = true ∧ st.2.2.getD i (-1) = lastN (-1) (walkN st i) := by
  unfold rightB at h
  split at h
  · rename_i hl
    rw [Bool.and_eq_true, beq_iff_eq] at h
    exact ⟨hl, h.1, h.2⟩
  · cases h
theorem allL_get {st : LSt} {i : Nat} (h : i < (allL st).length) : (allL st)[i] = walkN st i := by simp [allL]
/-- a state that may be holds its lists -/
theorem rep_chk {st : LSt} (h : chkL st = 0) : Rep st (allL st) := by
  obtain ⟨hn, hk, ht, hR, hF, hA⟩ := chkL_parts h
  have hseg : ∀ i, i < st.2.1.length → seg st.1 i (-1) (walkN st i) (-1) ∧ hdI (-1) (walkN st i) = st.2.1.getD i (-1) := by
    intro i hi
    obtain ⟨hc, hp, -⟩ := rightB_parts (hA i hi)
    have hh := links_head hR hi
    have e : st.2.1.getD i (-1) = st.2.1[i] := by simp [List.getD, hi]
    refine walk_seg (fun j hj => (links_nodAt hR hj).2.1) _ _ _ (by rw [e]; exact hh) hp ?_
    have := cntN_le st.1 i
    show (walkN st i).length < _
    omega
  have hbd : ∀ i, i < st.2.1.length → ∀ a ∈ walkN st i, 0 ≤ a := fun i hi a ha => (walkN_mem hR hi a ha).1
  refine ⟨?_, ?_, ?_, ?_⟩
  · refine List.ext_getElem (by rw [List.length_map, allL_len]) fun i h1 h2 => ?_
    rw [List.getElem_map, allL_get, (hseg i h1).2]
    simp [List.getD, h1]
  · refine List.ext_getElem (by rw [List.length_map, allL_len]; exact ht) fun i h1 h2 => ?_
    have hi : i < st.2.1.length := by omega
    rw [List.getElem_map, allL_get, ← (rightB_parts (hA i hi)).2.2]
    simp [List.getD, h1]
  · intro i hi
    rw [allL_len] at hi
    rw [allL_get]
    exact (hseg i hi).1
  · intro a ha hno
    have hl := links_nodAt hR ha
    rw [List.any_eq_false] at hF
    have hf := hF _ (List.getElem_mem ha)
    rw [← nodAt_lt _ _ ha] at hf
    obtain ⟨x, hx⟩ : ∃ x, nodAt st.1 a = x := ⟨_, rfl⟩
    obtain ⟨x0, x1, x2⟩ := x
    rw [hx] at hf hl ⊢
    by_cases h0 : x0 < 0
    · unfold formBad at hf
      simp only [Bool.and_eq_true, Bool.or_eq_true, decide_eq_true_eq, not_and, not_or] at hf
      have := hf h0
      simp only at hl this
      have e0 : x0 = -1 := by omega
      have e1 : x1 = -1 := by omega
      have e2 : x2 = -1 := by omega
      rw [e0, e1, e2]
    · exfalso
      simp only at hl
      obtain ⟨i, rfl⟩ : ∃ i : Nat, x0 = i := ⟨x0.toNat, by omega⟩
      have hi : i < st.2.1.length := by omega
      obtain ⟨hc, hp, -⟩ := rightB_parts (hA i hi)
      have hno' := hno i (by rw [allL_len]; exact hi)
      rw [allL_get] at hno'
      have := nodup_sub (X := (a : Int) :: walkN st i) (Y := idxN st.1 i) (List.nodup_cons.2 ⟨hno', prevOk_nodup hp (hbd i hi)⟩) (fun b hb => by
        rw [mem_idxN]
        rcases List.mem_cons.1 hb with rfl | hb
        · exact ⟨by omega, by omega, by rw [Int.toNat_natCast, hx]⟩
        · exact seg_mem (hseg i hi).1 b hb)
      rw [cnt_idx, List.length_cons] at this
      omega
theorem rep_walk {st : LSt} {L : List (List Int)} (h : Rep st L) {i : Nat} (hi : i < L.length) : walkN st i = L[i] := by
  have hs := h.segs i hi
  have hl := nodup_bd (h.nodup hi) (fun a ha => h.bd hi ha)
  unfold walkN
  have e : st.2.1.getD i (-1) = hdI (-1) L[i] := by rw [h.heads]; simp [List.getD, hi]
  rw [e]
  exact seg_walk hs (by omega)
theorem rep_len {st : LSt} {L : List (List Int)} (h : Rep st L) : st.2.1.length = L.length ∧ st.2.2.length = L.length := by
  rw [h.heads, h.tails, List.length_map, List.length_map]; exact ⟨rfl, rfl⟩
theorem rep_all {st : LSt} {L : List (List Int)} (h : Rep st L) : allL st = L := by
  refine List.ext_getElem (by rw [allL_len, (rep_len h).1]) fun i h1 h2 => ?_
  rw [allL_get, rep_walk h h2]
theorem rep_nod {st : LSt} {L : List (List Int)} (h : Rep st L) {a : Nat} (ha : a < st.1.length) : nodAt st.1 a = (-1, -1, -1) ∧ (∀ i (hi : i < L.length), (a : Int) ∉ L[i]) ∨ ∃ i, ∃ (hi : i < L.length) (A B : List Int), L[i] = A ++ (a : Int) :: B ∧ nodAt st.1 a = ((i : Int), hdI (-1) B, lastN (-1) A) := by
  by_cases hm : ∃ i, ∃ (hi : i < L.length), (a : Int) ∈ L[i]
  · obtain ⟨i, hi, hm⟩ := hm
    obtain ⟨A, B, e⟩ := List.append_of_mem hm
    have s := h.segs i hi
    rw [e] at s
    have := (seg_at s).2.2
    rw [Int.toNat_natCast] at this
    exact .inr ⟨i, hi, A, B, e, this⟩
  · exact .inl ⟨h.free a ha fun i hi hm' => hm ⟨i, hi, hm'⟩, fun i hi hm' => hm ⟨i, hi, hm'⟩⟩
theorem hd_bd {n : Nat} {A : List Int} (h : ∀ a ∈ A, 0 ≤ a ∧ a < (n : Int)) : -1 ≤ hdI (-1) A ∧ hdI (-1) A ≤ (n : Int) - 1 := by
  cases A with
  | nil => exact ⟨by decide, by show (-1 : Int) ≤ _; omega⟩
  | cons a r => have := h a (List.mem_cons_self ..); show -1 ≤ a ∧ a ≤ _; omega
theorem la_bd {n : Nat} {A : List Int} (h : ∀ a ∈ A, 0 ≤ a ∧ a < (n : Int)) : -1 ≤ lastN (-1) A ∧ lastN (-1) A ≤ (n : Int) - 1 := by
  cases A with
  | nil => exact ⟨by decide, by show (-1 : Int) ≤ _; omega⟩
  | cons a r => have := h _ (lastN_mem (-1) (a :: r) (by simp)); omega
/-- a state that holds lists may be -/
theorem chk_rep {st : LSt} {L : List (List Int)} (h : Rep st L) (hn : 1 ≤ st.1.length ∧ st.1.length ≤ 64) (hk : 1 ≤ L.length ∧ L.length ≤ 8) : chkL st = 0 := by
  obtain ⟨l1, l2⟩ := rep_len h
  have hbd : ∀ i (hi : i < L.length), ∀ a ∈ L[i], 0 ≤ a ∧ a < (st.1.length : Int) := fun i hi a ha => h.bd hi ha
  have hlen : lensB st = true := by
    unfold lensB
    rw [Bool.and_eq_true, Bool.and_eq_true, inB_iff, inB_iff, decide_eq_true_iff]
    omega
  have hlinks : linksB st = true := by
    unfold linksB
    rw [Bool.and_eq_true, Bool.and_eq_true]
    refine ⟨all_yes fun j hj => ?_, all_yes fun j hj => ?_, all_yes fun j hj => ?_⟩
    · have := rep_nod h hj
      rw [nodAt_lt _ _ hj] at this
      unfold nodOk
      rw [Bool.and_eq_true, Bool.and_eq_true, inB_iff, inB_iff, inB_iff]
      rcases this with ⟨e, -⟩ | ⟨i, hi, A, B, e, e2⟩
      · rw [e]; simp only; omega
      · rw [e2]
        have hb := hbd i hi
        rw [e] at hb
        have b1 := hd_bd (n := st.1.length) (A := B) fun a ha => hb a (by simp [ha])
        have b2 := la_bd (n := st.1.length) (A := A) fun a ha => hb a (by simp [ha])
        simp only; omega
    · have hj' : j < L.length := by omega
      have e : st.2.1[j] = hdI (-1) L[j] := by simp [h.heads]
      rw [inB_iff, e]
      exact hd_bd (hbd j hj')
    · have hj' : j < L.length := by omega
      have e : st.2.2[j] = lastN (-1) L[j] := by simp [h.tails]
      rw [inB_iff, e]
      exact la_bd (hbd j hj')
  have hform : st.1.any formBad = false := by
    refine anyN_no fun j hj => ?_
    have := rep_nod h hj
    rw [nodAt_lt _ _ hj] at this
    rcases this with ⟨e, -⟩ | ⟨i, hi, A, B, e, e2⟩
    · rw [e]; rfl
    · rw [e2]
      have : ¬ ((i : Int) < 0) := by omega
      simp [formBad, this]
  have hright : (List.range st.2.1.length).all (rightB st) = true := by
    rw [List.all_eq_true]
    intro i hi
    rw [List.mem_range, l1] at hi
    have hw := rep_walk h hi
    have hs := h.segs i hi
    have hc : (walkN st i).length = cntN st.1 i := by
      rw [hw, ← cnt_idx]
      refine Nat.le_antisymm (nodup_sub (h.nodup hi) fun a ha => ?_) (nodup_sub (nodup_idxN _ _) fun a ha => ?_)
      · rw [mem_idxN]; exact seg_mem hs a ha
      · rw [mem_idxN] at ha
        have hlt : a.toNat < st.1.length := by omega
        rcases rep_nod h hlt with ⟨e, -⟩ | ⟨j, hj, A, B, e, e2⟩
        · rw [e] at ha; have := ha.2.2; simp only at this; omega
        · rw [e2] at ha
          have hij : j = i := by have := ha.2.2; simp only at this; omega
          subst hij
          rw [e]
          have : ((a.toNat : Nat) : Int) = a := by omega
          rw [this]; simp
    unfold rightB
    rw [if_pos hc, hw, seg_prevOk hs]
    have e : st.2.2.getD i (-1) = lastN (-1) L[i] := by simp [h.tails, List.getD, hi]
    rw [e]; simp
  unfold chkL
  rw [hlen, hlinks, hform, hright]; rfl

/-- b stands behind a -/
def joinP (st : LSt) (i : Nat) (a b : Int) : LSt :=
  let s : LSt := if a = -1 then (st.1, st.2.1.set i b, st.2.2) else (st.1.set a.toNat ((nodAt st.1 a.toNat).1, b, (nodAt st.1 a.toNat).2.2), st.2.1, st.2.2)
  if b = -1 then (s.1, s.2.1, s.2.2.set i a) else (s.1.set b.toNat ((nodAt s.1 b.toNat).1, (nodAt s.1 b.toNat).2.1, a), s.2.1, s.2.2)
def putP (st : LSt) (i : Nat) (k : Nat) : LSt :=
  joinP (joinP (st.1.set k ((i : Int), (nodAt st.1 k).2.1, (nodAt st.1 k).2.2), st.2.1, st.2.2) i (st.2.2.getD i (-1)) k) i k (-1)
def outP (st : LSt) (k : Nat) : LSt :=
  let s := joinP st (nodAt st.1 k).1.toNat (nodAt st.1 k).2.2 (nodAt st.1 k).2.1
  (s.1.set k (-1, -1, -1), s.2.1, s.2.2)
theorem joinP_len (st : LSt) (i : Nat) (a b : Int) : (joinP st i a b).1.length = st.1.length ∧ (joinP st i a b).2.1.length = st.2.1.length ∧ (joinP st i a b).2.2.length = st.2.2.length := by
  unfold joinP
  by_cases h : a = -1 <;> by_cases h2 : b = -1 <;> simp [h, h2]
theorem putP_len (st : LSt) (i k : Nat) : (putP st i k).1.length = st.1.length ∧ (putP st i k).2.1.length = st.2.1.length ∧ (putP st i k).2.2.length = st.2.2.length := by
  unfold putP
  simp [joinP_len]
theorem outP_len (st : LSt) (k : Nat) : (outP st k).1.length = st.1.length ∧ (outP st k).2.1.length = st.2.1.length ∧ (outP st k).2.2.length = st.2.2.length := by
  unfold outP
  simp [joinP_len]
theorem joinP_nod (st : LSt) (i : Nat) (a b : Int) (ha : -1 ≤ a ∧ a < st.1.length) (hb : -1 ≤ b ∧ b < st.1.length) (k : Nat) :
    nodAt (joinP st i a b).1 k = ((nodAt st.1 k).1, if (k : Int) = a then b else (nodAt st.1 k).2.1, if (k : Int) = b then a else (nodAt st.1 k).2.2) := by
  unfold joinP
  by_cases h : a = -1
  · subst h
    have hk : ¬ (k : Int) = -1 := by omega
    by_cases h2 : b = -1
    · subst h2; simp [hk]
    · simp only [if_true, if_neg h2, if_neg hk]
      rw [nodAt_set _ _ _ _ (by omega)]
      by_cases e : k = b.toNat
      · rw [if_pos e, if_pos (by omega), e]
      · rw [if_neg e, if_neg (by omega)]
  · by_cases h2 : b = -1
    · subst h2
      have hk : ¬ (k : Int) = -1 := by omega
      simp only [if_true, if_neg h, if_neg hk]
      rw [nodAt_set _ _ _ _ (by omega)]
      by_cases e : k = a.toNat
      · rw [if_pos e, if_pos (by omega), e]
      · rw [if_neg e, if_neg (by omega)]
    · simp only [if_neg h, if_neg h2]
      rw [nodAt_set _ _ _ _ (by rw [List.length_set]; omega), nodAt_set _ _ _ _ (by omega), nodAt_set _ _ _ _ (by omega)]
      by_cases e : k = b.toNat
      · rw [if_pos e, if_pos (show (k : Int) = b by omega), ← e]
        by_cases e2 : k = a.toNat
        · rw [if_pos e2, if_pos (by omega), e2]
        · rw [if_neg e2, if_neg (by omega)]
      · rw [if_neg e, if_neg (show ¬ (k : Int) = b by omega)]
        by_cases e2 : k = a.toNat
        · rw [if_pos e2, if_pos (by omega), e2]
        · rw [if_neg e2, if_neg (by omega)]
theorem joinP_hd (st : LSt) (i : Nat) (a b : Int) : (joinP st i a b).2.1 = if a = -1 then st.2.1.set i b else st.2.1 := by
  unfold joinP
  by_cases h : a = -1 <;> by_cases h2 : b = -1 <;> simp [h, h2]
theorem joinP_tl (st : LSt) (i : Nat) (a b : Int) : (joinP st i a b).2.2 = if b = -1 then st.2.2.set i a else st.2.2 := by
  unfold joinP
  by_cases h : a = -1 <;> by_cases h2 : b = -1 <;> simp [h, h2]
theorem map_keep {α β : Type} (f : α → β) (L : List α) (i : Nat) (x : α) (h : i < L.length) (e : f x = f L[i]) : (L.set i x).map f = L.map f := by
  rw [List.map_set, e]
  refine List.ext_getElem (by simp) fun k h1 h2 => ?_
  rw [List.getElem_set]
  split
  · rename_i hk; subst hk; simp
  · rfl
theorem last_ne {A : List Int} (h : ∀ a ∈ A, 0 ≤ a) : lastN (-1) A = -1 ↔ A = [] := by
  constructor
  · intro e
    by_cases hA : A = []
    · exact hA
    · have := h _ (lastN_mem (-1) A hA); omega
  · rintro rfl; rfl
theorem hd_ne {A : List Int} (h : ∀ a ∈ A, 0 ≤ a) : hdI (-1) A = -1 ↔ A = [] := by
  constructor
  · intro e
    by_cases hA : A = []
    · exact hA
    · have := h _ (hdI_mem (-1) A hA); omega
  · rintro rfl; rfl

/-- a place behind a list -/
theorem rep_put {st : LSt} {L : List (List Int)} (h : Rep st L) {i k : Nat} (hi : i < L.length) (hk : k < st.1.length) (hno : ∀ j (hj : j < L.length), (k : Int) ∉ L[j]) :
    Rep (putP st i k) (L.set i (L[i] ++ [(k : Int)])) := by
  have ht : st.2.2.getD i (-1) = lastN (-1) L[i] := by simp [h.tails, List.getD, hi]
  have hb := fun a (ha : a ∈ L[i]) => h.bd hi ha
  have hlb := la_bd (n := st.1.length) hb
  obtain ⟨n1, n2, n3⟩ := putP_len st i k
  have hnod : ∀ m : Nat, nodAt (putP st i k).1 m = if m = k then ((i : Int), -1, lastN (-1) L[i]) else ((nodAt st.1 m).1, if (m : Int) = lastN (-1) L[i] then (k : Int) else (nodAt st.1 m).2.1, (nodAt st.1 m).2.2) := by
    intro m
    unfold putP
    rw [ht, joinP_nod _ _ _ _ (by rw [(joinP_len _ _ _ _).1]; simp; omega) (by omega), joinP_nod _ _ _ _ (by simp; omega) (by simp; omega)]
    simp only
    rw [nodAt_set _ _ _ _ hk]
    by_cases e : m = k
    · subst e
      have : ¬ ((m : Int) = -1) := by omega
      simp [this]
    · have e' : ¬ ((m : Int) = k) := by omega
      have : ¬ ((m : Int) = -1) := by omega
      simp [e, e', this]
  have hh : (putP st i k).2.1 = if lastN (-1) L[i] = -1 then st.2.1.set i (k : Int) else st.2.1 := by
    unfold putP
    rw [ht, joinP_hd, if_neg (by omega), joinP_hd]
  have htl : (putP st i k).2.2 = st.2.2.set i (k : Int) := by
    unfold putP
    rw [ht, joinP_tl, if_pos rfl, joinP_tl, if_neg (by omega)]
  refine ⟨?_, ?_, ?_, ?_⟩
  · rw [hh, h.heads]
    by_cases e : L[i] = []
    · rw [if_pos ((last_ne fun a ha => (hb a ha).1).2 e), List.map_set, e]; rfl
    · rw [if_neg (fun h' => e ((last_ne fun a ha => (hb a ha).1).1 h')), map_keep _ _ _ _ hi]
      rw [hdI_append]
      cases hl : L[i] with
      | nil => exact absurd hl e
      | cons a r => rfl
  · rw [htl, h.tails, List.map_set, lastN_append]; rfl
  · intro j hj
    rw [List.length_set] at hj
    rw [List.getElem_set]
    split
    · rename_i e
      subst e
      rw [seg_append]
      refine ⟨seg_retarget n1 (h.nodup hi) (fun a ha => ?_) (h.segs i hi), ⟨by omega, by rw [n1]; omega, ?_⟩, trivial⟩
      · rw [hnod, if_neg (fun e => hno i hi (by have := (hb a ha).1; rw [← e, Int.toNat_of_nonneg this]; exact ha)), Int.toNat_of_nonneg (hb a ha).1]; rfl
      · rw [Int.toNat_natCast, hnod, if_pos rfl]; rfl
    · rename_i e
      refine seg_frame n1 (fun a ha => ?_) (h.segs j hj)
      have h0 := (h.bd hj ha).1
      rw [hnod, if_neg (fun e => hno j hj (by rw [← e, Int.toNat_of_nonneg h0]; exact ha)), Int.toNat_of_nonneg h0, if_neg]
      intro e2
      by_cases hl : L[i] = []
      · rw [hl] at e2; rw [show lastN (-1) [] = -1 from rfl] at e2; omega
      · have := lastN_mem (-1) L[i] hl
        rw [← e2] at this
        exact e (h.disj hi hj this ha)
  · intro a ha hno2
    rw [n1] at ha
    have hak : a ≠ k := by
      rintro rfl
      refine hno2 i (by rw [List.length_set]; exact hi) ?_
      rw [List.getElem_set_self]; simp
    have hno3 : ∀ j (hj : j < L.length), (a : Int) ∉ L[j] := by
      intro j hj hm
      refine hno2 j (by rw [List.length_set]; exact hj) ?_
      rw [List.getElem_set]
      split
      · rename_i e; subst e; simp [hm]
      · exact hm
    rw [hnod, if_neg hak, h.free a ha hno3, if_neg]
    intro e2
    by_cases hl : L[i] = []
    · rw [hl] at e2; rw [show lastN (-1) [] = -1 from rfl] at e2; omega
    · have := lastN_mem (-1) L[i] hl
      rw [← e2] at this
      exact hno3 i hi this

/-- a place taken out -/
theorem rep_out {st : LSt} {L : List (List Int)} (h : Rep st L) {i k : Nat} (hi : i < L.length) {A B : List Int} (hAB : L[i] = A ++ (k : Int) :: B) :
    Rep (outP st k) (L.set i (A ++ B)) := by
  have hs := h.segs i hi
  have hnd := h.nodup hi
  have hb := fun a (ha : a ∈ L[i]) => h.bd hi ha
  rw [hAB] at hs hnd hb
  have hat := seg_at hs
  have hkl : k < st.1.length := by omega
  have hck := hat.2.2
  rw [Int.toNat_natCast] at hck
  obtain ⟨n1, n2, n3⟩ := outP_len st k
  have bA := fun a (ha : a ∈ A) => hb a (List.mem_append_left _ ha)
  have bB := fun a (ha : a ∈ B) => hb a (List.mem_append_right _ (List.mem_cons_of_mem _ ha))
  have b1 := hd_bd (n := st.1.length) bB
  have b2 := la_bd (n := st.1.length) bA
  have hnA : A.Nodup := (List.nodup_append.1 hnd).1
  have hnB : B.Nodup := (List.nodup_cons.1 (List.nodup_append.1 hnd).2.1).2
  have hkB : (k : Int) ∉ B := (List.nodup_cons.1 (List.nodup_append.1 hnd).2.1).1
  have hAk : ∀ a ∈ A, ∀ b ∈ (k : Int) :: B, a ≠ b := (List.nodup_append.1 hnd).2.2
  have hkA : (k : Int) ∉ A := fun hm => hAk _ hm _ (List.mem_cons_self ..) rfl
  have hnod : ∀ m : Nat, nodAt (outP st k).1 m = if m = k then (-1, -1, -1) else ((nodAt st.1 m).1, if (m : Int) = lastN (-1) A then hdI (-1) B else (nodAt st.1 m).2.1, if (m : Int) = hdI (-1) B then lastN (-1) A else (nodAt st.1 m).2.2) := by
    intro m
    unfold outP
    simp only
    rw [nodAt_set _ _ _ _ (by rw [(joinP_len _ _ _ _).1]; exact hkl), hck, joinP_nod _ _ _ _ (by dsimp only; omega) (by dsimp only; omega)]
  have hh : (outP st k).2.1 = if lastN (-1) A = -1 then st.2.1.set i (hdI (-1) B) else st.2.1 := by
    unfold outP
    simp only
    rw [hck, joinP_hd]; simp
  have htl : (outP st k).2.2 = if hdI (-1) B = -1 then st.2.2.set i (lastN (-1) A) else st.2.2 := by
    unfold outP
    simp only
    rw [hck, joinP_tl]; simp
  have hmemL : ∀ m ∈ A ++ B, m ∈ L[i] := by
    intro m hm
    rw [hAB]
    rcases List.mem_append.1 hm with hm | hm
    · exact List.mem_append_left _ hm
    · exact List.mem_append_right _ (List.mem_cons_of_mem _ hm)
  have hlA : lastN (-1) A ≠ -1 → lastN (-1) A ∈ A := fun hne => lastN_mem _ _ fun e => hne ((last_ne fun a ha => (bA a ha).1).2 e)
  have hhB : hdI (-1) B ≠ -1 → hdI (-1) B ∈ B := fun hne => hdI_mem _ _ fun e => hne ((hd_ne fun a ha => (bB a ha).1).2 e)
  refine ⟨?_, ?_, ?_, ?_⟩
  · rw [hh, h.heads]
    by_cases e : A = []
    · subst e; rw [if_pos (by rfl), List.map_set]; rfl
    · rw [if_neg (fun h' => e ((last_ne fun a ha => (bA a ha).1).1 h')), map_keep _ _ _ _ hi]
      rw [hAB, hdI_append, hdI_append]
      cases A with
      | nil => exact absurd rfl e
      | cons a r => rfl
  · rw [htl, h.tails]
    by_cases e : B = []
    · subst e; rw [if_pos (by rfl), List.map_set, List.append_nil]
    · rw [if_neg (fun h' => e ((hd_ne fun a ha => (bB a ha).1).1 h')), map_keep _ _ _ _ hi]
      rw [hAB, lastN_append, lastN_append]
      cases B with
      | nil => exact absurd rfl e
      | cons a r => rfl
  · intro j hj
    rw [List.length_set] at hj
    rw [List.getElem_set]
    split
    · rename_i e
      subst e
      rw [seg_append] at hs ⊢
      refine ⟨seg_retarget n1 hnA (fun a ha => ?_) hs.1, seg_rebase (x := -1) n1 hnB (fun a ha => ?_) hs.2.2⟩
      · have h0 := (bA a ha).1
        rw [hnod, if_neg (fun e => hkA (by rw [← e, Int.toNat_of_nonneg h0]; exact ha)), Int.toNat_of_nonneg h0]
        congr 2
        rw [if_neg]
        intro e
        have hm := hhB (by omega)
        rw [← e] at hm
        exact hAk _ ha _ (List.mem_cons_of_mem _ hm) rfl
      · have h0 := (bB a ha).1
        rw [hnod, if_neg (fun e => hkB (by rw [← e, Int.toNat_of_nonneg h0]; exact ha)), Int.toNat_of_nonneg h0]
        congr 2
        rw [if_neg]
        intro e
        have hm := hlA (by omega)
        rw [← e] at hm
        exact hAk _ hm _ (List.mem_cons_of_mem _ ha) rfl
    · rename_i e
      have hne : ∀ m ∈ L[i], ∀ a ∈ L[j], a ≠ m := fun m hm a ha e2 => e (h.disj hi hj (e2 ▸ hm) ha)
      refine seg_frame n1 (fun a ha => ?_) (h.segs j hj)
      have h0 := (h.bd hj ha).1
      rw [hnod, if_neg (fun e => hne k (by rw [hAB]; simp) a ha (by omega)), Int.toNat_of_nonneg h0, if_neg, if_neg]
      · intro e; exact hne _ (hmemL _ (List.mem_append_right _ (hhB (by omega)))) a ha e
      · intro e; exact hne _ (hmemL _ (List.mem_append_left _ (hlA (by omega)))) a ha e
  · intro a ha hno2
    rw [n1] at ha
    rw [hnod]
    by_cases e : a = k
    · rw [if_pos e]
    · have hnew : ∀ m ∈ A ++ B, (a : Int) ≠ m := by
        rintro m hm rfl
        refine hno2 i (by rw [List.length_set]; exact hi) ?_
        rw [List.getElem_set_self]; exact hm
      have hno3 : ∀ j (hj : j < L.length), (a : Int) ∉ L[j] := by
        intro j hj hm
        by_cases ej : i = j
        · subst ej
          rw [hAB] at hm
          rcases List.mem_append.1 hm with hm | hm
          · exact hnew _ (List.mem_append_left _ hm) rfl
          · rcases List.mem_cons.1 hm with hm | hm
            · exact e (by omega)
            · exact hnew _ (List.mem_append_right _ hm) rfl
        · refine hno2 j (by rw [List.length_set]; exact hj) ?_
          rw [List.getElem_set, if_neg ej]; exact hm
      rw [if_neg e, h.free a ha hno3, if_neg, if_neg]
      · intro e; exact hnew _ (List.mem_append_right _ (hhB (by omega))) e
      · intro e; exact hnew _ (List.mem_append_left _ (hlA (by omega))) e
end Go.Proofs.Ytkcenadenmkgnaa
