/- Plain mathematics of lists by links: what a state that may be is made of. -/
import Derived.Test.YtkcenadenmkgnaaC4F
namespace Go.Proofs.Ytkcenadenmkgnaa
open Go.RowKit
set_option linter.unusedVariables false
set_option linter.unusedSimpArgs false

theorem nodAt_set (l : List Nod) (j k : Nat) (c : Nod) (h : j < l.length) : nodAt (l.set j c) k = if k = j then c else nodAt l k := by
  unfold nodAt
  simp only [List.getD_eq_getElem?_getD, List.getElem?_set]
  by_cases e : j = k
  · subst e; simp [h]
  · simp [e, Ne.symm e]
theorem nodAt_ext {l l' : List Nod} (hl : l.length = l'.length) (h : ∀ k, k < l.length → nodAt l k = nodAt l' k) : l = l' := by
  refine List.ext_getElem hl fun k h1 h2 => ?_
  have := h k h1
  rwa [nodAt_lt _ _ h1, nodAt_lt _ _ h2] at this
theorem nodup_sub {α : Type} [DecidableEq α] : ∀ {X Y : List α}, X.Nodup → (∀ a ∈ X, a ∈ Y) → X.length ≤ Y.length := by
  intro X
  induction X with
  | nil => intro Y _ _; exact Nat.zero_le _
  | cons a r ih =>
    intro Y hn hs
    rw [List.nodup_cons] at hn
    have ha : a ∈ Y := hs a (List.mem_cons_self ..)
    have := ih (Y := Y.erase a) hn.2 (fun b hb => (List.mem_erase_of_ne (fun e => hn.1 (by rw [← e]; exact hb))).2 (hs b (List.mem_cons_of_mem _ hb)))
    rw [List.length_erase_of_mem ha] at this
    have := List.length_pos_of_mem ha
    rw [List.length_cons]; omega
theorem nodup_bd {X : List Int} {n : Nat} (hn : X.Nodup) (hb : ∀ a ∈ X, 0 ≤ a ∧ a < n) : X.length ≤ n := by
  have := nodup_sub (Y := (List.range n).map fun k : Nat => (k : Int)) hn (fun a ha => by
    have := hb a ha
    exact List.mem_map.2 ⟨a.toNat, List.mem_range.2 (by omega), by omega⟩)
  simpa using this

/-- the first one; q, if there is none -/
def hdI (q : Int) : List Int → Int
  | [] => q
  | a :: _ => a
theorem hdI_append (q : Int) (A B : List Int) : hdI q (A ++ B) = hdI (hdI q B) A := by cases A <;> rfl
theorem lastN_append (p : Int) (A B : List Int) : lastN p (A ++ B) = lastN (lastN p A) B := by
  induction A generalizing p with
  | nil => rfl
  | cons a r ih => exact ih a
theorem lastN_mem (p : Int) : ∀ (A : List Int), A ≠ [] → lastN p A ∈ A := by
  intro A
  induction A generalizing p with
  | nil => intro h; exact absurd rfl h
  | cons a r ih =>
    intro _
    cases r with
    | nil => exact List.mem_cons_self ..
    | cons b r => exact List.mem_cons_of_mem _ (ih a (by simp))
theorem lastN_bd {p lo hi : Int} {A : List Int} (hp : lo ≤ p ∧ p < hi) (h : ∀ a ∈ A, lo ≤ a ∧ a < hi) : lo ≤ lastN p A ∧ lastN p A < hi := by
  cases A with
  | nil => exact hp
  | cons a r => exact h _ (lastN_mem p (a :: r) (by simp))
theorem hdI_mem (q : Int) : ∀ (A : List Int), A ≠ [] → hdI q A ∈ A := by
  intro A h
  cases A with
  | nil => exact absurd rfl h
  | cons a r => exact List.mem_cons_self ..

/-- behind p the places of a list stand in ns, as those of the list i; behind them comes q -/
def seg (ns : List Nod) (i : Int) : Int → List Int → Int → Prop
  | _, [], _ => True
  | p, a :: r, q => (0 ≤ a ∧ a < ns.length ∧ nodAt ns a.toNat = (i, hdI q r, p)) ∧ seg ns i a r q
theorem seg_append (ns : List Nod) (i : Int) (A B : List Int) : ∀ (p q : Int), seg ns i p (A ++ B) q ↔ seg ns i p A (hdI q B) ∧ seg ns i (lastN p A) B q := by
  induction A with
  | nil => intro p q; simp [seg, lastN]
  | cons a r ih =>
    intro p q
    show ((0 ≤ a ∧ a < ns.length ∧ nodAt ns a.toNat = (i, hdI q (r ++ B), p)) ∧ seg ns i a (r ++ B) q) ↔ (_ ∧ seg ns i a r (hdI q B)) ∧ seg ns i (lastN a r) B q
    rw [ih, hdI_append]
    exact and_assoc.symm
theorem seg_mem {ns : List Nod} {i : Int} {l : List Int} : ∀ {p q : Int}, seg ns i p l q → ∀ a ∈ l, 0 ≤ a ∧ a < ns.length ∧ (nodAt ns a.toNat).1 = i := by
  induction l with
  | nil => intro p q _ a h; cases h
  | cons b r ih =>
    intro p q h a ha
    rcases List.mem_cons.1 ha with rfl | ha
    · exact ⟨h.1.1, h.1.2.1, by rw [h.1.2.2]⟩
    · exact ih h.2 a ha
theorem seg_frame {ns ns' : List Nod} {i : Int} (hl : ns'.length = ns.length) {l : List Int} : ∀ {p q : Int}, (∀ a ∈ l, nodAt ns' a.toNat = nodAt ns a.toNat) → seg ns i p l q → seg ns' i p l q := by
  induction l with
  | nil => intro p q _ _; trivial
  | cons b r ih =>
    intro p q hs h
    exact ⟨⟨h.1.1, by rw [hl]; exact h.1.2.1, by rw [hs b (List.mem_cons_self ..)]; exact h.1.2.2⟩, ih (fun a ha => hs a (List.mem_cons_of_mem _ ha)) h.2⟩
/-- another one behind the last -/
theorem seg_retarget {ns ns' : List Nod} {i q' : Int} (hl : ns'.length = ns.length) {l : List Int} : ∀ {p q : Int}, l.Nodup →
    (∀ a ∈ l, nodAt ns' a.toNat = ((nodAt ns a.toNat).1, if a = lastN p l then q' else (nodAt ns a.toNat).2.1, (nodAt ns a.toNat).2.2)) → seg ns i p l q → seg ns' i p l q' := by
  induction l with
  | nil => intro p q _ _ _; trivial
  | cons b r ih =>
    intro p q hn hs h
    rw [List.nodup_cons] at hn
    refine ⟨⟨h.1.1, by rw [hl]; exact h.1.2.1, ?_⟩, ih hn.2 (fun a ha => hs a (List.mem_cons_of_mem _ ha)) h.2⟩
    rw [hs b (List.mem_cons_self ..), h.1.2.2]
    cases r with
    | nil => rw [if_pos (by rfl)]; rfl
    | cons c r =>
      rw [if_neg]
      · rfl
      · intro e
        exact hn.1 (by rw [e]; exact lastN_mem b (c :: r) (by simp))
/-- another one ahead of the first -/
theorem seg_rebase {ns ns' : List Nod} {i p' x : Int} (hl : ns'.length = ns.length) {l : List Int} {p q : Int} (hn : l.Nodup)
    (hs : ∀ a ∈ l, nodAt ns' a.toNat = ((nodAt ns a.toNat).1, (nodAt ns a.toNat).2.1, if a = hdI x l then p' else (nodAt ns a.toNat).2.2)) (h : seg ns i p l q) : seg ns' i p' l q := by
  cases l with
  | nil => trivial
  | cons b r =>
    rw [List.nodup_cons] at hn
    refine ⟨⟨h.1.1, by rw [hl]; exact h.1.2.1, ?_⟩, seg_frame hl (fun a ha => ?_) h.2⟩
    · rw [hs b (List.mem_cons_self ..), h.1.2.2, if_pos (by rfl)]
    · rw [hs a (List.mem_cons_of_mem _ ha), if_neg]
      intro e; exact hn.1 (by rw [show b = a from e.symm]; exact ha)

theorem prevOk_get {l : List Nod} {i : Int} {X : List Int} : ∀ {p : Int}, prevOk l i p X = true → ∀ k (h : k < X.length), (nodAt l X[k].toNat).1 = i ∧ (nodAt l X[k].toNat).2.2 = if h0 : k = 0 then p else X[k - 1] := by
  induction X with
  | nil => intro p _ k h; cases h
  | cons a r ih =>
    intro p hp k h
    unfold prevOk at hp
    rw [Bool.and_eq_true, Bool.and_eq_true, beq_iff_eq, beq_iff_eq] at hp
    cases k with
    | zero => exact ⟨hp.1.1, by rw [dif_pos rfl]; exact hp.1.2⟩
    | succ k =>
      have := ih hp.2 k (by simpa using h)
      refine ⟨this.1, this.2.trans ?_⟩
      cases k with
      | zero => rfl
      | succ k => rfl
theorem prevOk_nodup {l : List Nod} {i : Int} {X : List Int} (h : prevOk l i (-1) X = true) (h0 : ∀ a ∈ X, 0 ≤ a) : X.Nodup := by
  have key : ∀ j k (hk : k < X.length) (hj : j < k), X[j]'(by omega) ≠ X[k] := by
    intro j
    induction j with
    | zero =>
      intro k hk hj e
      have a := (prevOk_get h 0 (by omega)).2
      have b := (prevOk_get h k hk).2
      rw [dif_pos rfl, e] at a
      rw [dif_neg (by omega), a] at b
      have := h0 _ (List.getElem_mem (show k - 1 < X.length by omega))
      omega
    | succ j ih =>
      intro k hk hj e
      have a := (prevOk_get h (j + 1) (by omega)).2
      have b := (prevOk_get h k hk).2
      rw [dif_neg (by omega), e] at a
      rw [dif_neg (by omega), a] at b
      exact ih (k - 1) (by omega) (by omega) b
  unfold List.Nodup
  rw [List.pairwise_iff_getElem]
  intro j k hj hk hjk
  exact key j k hk hjk
theorem prevOk_append (l : List Nod) (i : Int) (A B : List Int) : ∀ p, prevOk l i p (A ++ B) = (prevOk l i p A && prevOk l i (lastN p A) B) := by
  induction A with
  | nil => intro p; rfl
  | cons a r ih =>
    intro p
    show (_ && prevOk l i a (r ++ B)) = ((_ && prevOk l i a r) && prevOk l i (lastN a r) B)
    rw [ih]
    simp only [Bool.and_assoc]
theorem seg_prevOk {ns : List Nod} {i : Int} {l : List Int} : ∀ {p q : Int}, seg ns i p l q → prevOk ns i p l = true := by
  induction l with
  | nil => intro p q _; rfl
  | cons a r ih =>
    intro p q h
    show ((nodAt ns a.toNat).1 == i && (nodAt ns a.toNat).2.2 == p && prevOk ns i a r) = true
    rw [h.1.2.2, ih h.2]; simp
theorem seg_nodup {ns : List Nod} {i q : Int} {l : List Int} (h : seg ns i (-1) l q) : l.Nodup := prevOk_nodup (seg_prevOk h) fun a ha => (seg_mem h a ha).1
theorem walk_seg {l : List Nod} {i : Int} (hL : ∀ j, j < l.length → -1 ≤ (nodAt l j).2.1 ∧ (nodAt l j).2.1 < l.length) : ∀ (k : Nat) (p a : Int), -1 ≤ a ∧ a < l.length → prevOk l i p (walkF l k a) = true → (walkF l k a).length < k → seg l i p (walkF l k a) (-1) ∧ hdI (-1) (walkF l k a) = a := by
  intro k
  induction k with
  | zero => intro p a _ _ h; cases h
  | succ k ih =>
    intro p a ha hp hl
    unfold walkF at hp hl ⊢
    by_cases h0 : a < 0
    · rw [if_pos h0]; exact ⟨trivial, by show (-1 : Int) = a; omega⟩
    · rw [if_neg h0] at hp hl ⊢
      unfold prevOk at hp
      rw [Bool.and_eq_true, Bool.and_eq_true, beq_iff_eq, beq_iff_eq] at hp
      have := ih a (nodAt l a.toNat).2.1 (hL _ (by omega)) hp.2 (by simpa using hl)
      refine ⟨⟨⟨by omega, by omega, ?_⟩, this.1⟩, rfl⟩
      rw [this.2, ← hp.1.1, ← hp.1.2]
theorem seg_walk {ns : List Nod} {i : Int} {X : List Int} : ∀ {p : Int} {k : Nat}, seg ns i p X (-1) → X.length < k → walkF ns k (hdI (-1) X) = X := by
  induction X with
  | nil => intro p k _ _; exact walkF_neg _ _ _ (by decide)
  | cons a r ih =>
    intro p k h hk
    cases k with
    | zero => cases hk
    | succ k =>
      unfold walkF
      show (if a < 0 then [] else a :: walkF ns k (nodAt ns a.toNat).2.1) = a :: r
      rw [if_neg (by have := h.1.1; omega), h.1.2.2]
      congr 1
      exact ih h.2 (by simpa using hk)

/-- the numbers of the places of a list -/
def idxN (l : List Nod) (i : Int) : List Int := ((List.range l.length).filter fun k => (nodAt l k).1 == i).map fun k : Nat => (k : Int)
theorem mem_idxN {l : List Nod} {i a : Int} : a ∈ idxN l i ↔ 0 ≤ a ∧ a < l.length ∧ (nodAt l a.toNat).1 = i := by
  unfold idxN
  rw [List.mem_map]
  constructor
  · rintro ⟨k, hk, rfl⟩
    rw [List.mem_filter, List.mem_range, beq_iff_eq] at hk
    exact ⟨by omega, by omega, by simpa using hk.2⟩
  · intro h
    exact ⟨a.toNat, by rw [List.mem_filter, List.mem_range, beq_iff_eq]; exact ⟨by omega, h.2.2⟩, by omega⟩
theorem nodup_idxN (l : List Nod) (i : Int) : (idxN l i).Nodup := by
  unfold idxN
  have h : ((List.range l.length).filter fun k => (nodAt l k).1 == i).Nodup := List.nodup_range.filter _
  unfold List.Nodup at h ⊢
  rw [List.pairwise_map]
  exact h.imp fun hab e => hab (by omega)
theorem cnt_idx (l : List Nod) (i : Int) : (idxN l i).length = cntN l i := by
  unfold idxN cntN
  rw [List.length_map]
  have key : ∀ (m : List Nod), ((List.range m.length).filter fun k => (nodAt m k).1 == i).length = (m.filter fun x => x.1 == i).length := by
    intro m
    induction m with
    | nil => rfl
    | cons x r ih =>
      rw [List.length_cons, List.range_succ_eq_map, List.filter_cons, List.filter_cons, List.filter_map]
      have e : ((fun k => (nodAt (x :: r) k).1 == i) ∘ Nat.succ) = fun k => (nodAt r k).1 == i := rfl
      rw [e]
      have e0 : (nodAt (x :: r) 0) = x := rfl
      rw [e0]
      cases h : (x.1 == i)
      · simp only [Bool.false_eq_true, if_false, List.length_map]; exact ih
      · simp only [if_true, List.length_cons, List.length_map]; omega
  exact key l

/-- a state that holds these lists -/
structure Rep (st : LSt) (L : List (List Int)) : Prop where
  heads : st.2.1 = L.map (hdI (-1))
  tails : st.2.2 = L.map (lastN (-1))
  segs : ∀ i (h : i < L.length), seg st.1 i (-1) L[i] (-1)
  free : ∀ a : Nat, a < st.1.length → (∀ i (h : i < L.length), (a : Int) ∉ L[i]) → nodAt st.1 a = (-1, -1, -1)
theorem Rep.disj {st : LSt} {L : List (List Int)} (h : Rep st L) {i j : Nat} (hi : i < L.length) (hj : j < L.length) {a : Int} (ha : a ∈ L[i]) (hb : a ∈ L[j]) : i = j := by
  have e1 := (seg_mem (h.segs i hi) a ha).2.2
  have e2 := (seg_mem (h.segs j hj) a hb).2.2
  omega
theorem Rep.nodup {st : LSt} {L : List (List Int)} (h : Rep st L) {i : Nat} (hi : i < L.length) : L[i].Nodup := seg_nodup (h.segs i hi)
theorem Rep.bd {st : LSt} {L : List (List Int)} (h : Rep st L) {i : Nat} (hi : i < L.length) {a : Int} (ha : a ∈ L[i]) : 0 ≤ a ∧ a < st.1.length := ⟨(seg_mem (h.segs i hi) a ha).1, (seg_mem (h.segs i hi) a ha).2.1⟩
theorem seg_at {ns : List Nod} {i p q : Int} {A B : List Int} {a : Int} (h : seg ns i p (A ++ a :: B) q) : 0 ≤ a ∧ a < ns.length ∧ nodAt ns a.toNat = (i, hdI q B, lastN p A) := by
  rw [seg_append] at h
  exact h.2.1
theorem Rep.uniq {st st' : LSt} {L : List (List Int)} (h : Rep st L) (h' : Rep st' L) (hn : st.1.length = st'.1.length) : st = st' := by
  have e1 : st.1 = st'.1 := by
    refine nodAt_ext hn fun k hk => ?_
    by_cases hm : ∃ i, ∃ (hi : i < L.length), (k : Int) ∈ L[i]
    · obtain ⟨i, hi, hm⟩ := hm
      obtain ⟨A, B, e⟩ := List.append_of_mem hm
      have s1 := h.segs i hi
      have s2 := h'.segs i hi
      rw [e] at s1 s2
      have a1 := (seg_at s1).2.2
      have a2 := (seg_at s2).2.2
      rw [Int.toNat_natCast] at a1 a2
      rw [a1, a2]
    · rw [h.free k hk fun i hi hm' => hm ⟨i, hi, hm'⟩, h'.free k (by omega) fun i hi hm' => hm ⟨i, hi, hm'⟩]
  obtain ⟨a, b, c⟩ := st
  obtain ⟨a', b', c'⟩ := st'
  have e2 := h.heads.trans h'.heads.symm
  have e3 := h.tails.trans h'.tails.symm
  simp only at e1 e2 e3
  rw [e1, e2, e3]
end Go.Proofs.Ytkcenadenmkgnaa
