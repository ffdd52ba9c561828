/- Plain mathematics of lists by links: lists laid as links, place after place. -/
import Derived.Test.YtkcenadenmkgnaaC5O
import Derived.Test.YtkcenadenmkgnaaC5K
namespace Go.Proofs.Ytkcenadenmkgnaa
open Go.RowKit
set_option linter.unusedVariables false
set_option linter.unusedSimpArgs false

theorem put_nod {st : LSt} {i k : Nat} (hk : k < st.1.length) (ht : -1 ≤ st.2.2.getD i (-1) ∧ st.2.2.getD i (-1) < st.1.length) (m : Nat) :
    nodAt (putP st i k).1 m = if m = k then ((i : Int), -1, st.2.2.getD i (-1)) else ((nodAt st.1 m).1, if (m : Int) = st.2.2.getD i (-1) then (k : Int) else (nodAt st.1 m).2.1, (nodAt st.1 m).2.2) := by
  obtain ⟨t, ht'⟩ : ∃ t, st.2.2.getD i (-1) = t := ⟨_, rfl⟩
  unfold putP
  rw [ht'] at ht ⊢
  rw [joinP_nod _ _ _ _ (by rw [(joinP_len _ _ _ _).1]; simp; omega) (by omega), joinP_nod _ _ _ _ (by simp; omega) (by simp; omega)]
  simp only
  rw [nodAt_set _ _ _ _ hk]
  by_cases e : m = k
  · subst e
    have : ¬ ((m : Int) = -1) := by omega
    simp [this]
  · have e' : ¬ ((m : Int) = k) := by omega
    have : ¬ ((m : Int) = -1) := by omega
    simp [e, e', this]
theorem put_hd {st : LSt} {i k : Nat} : (putP st i k).2.1 = if st.2.2.getD i (-1) = -1 then st.2.1.set i (k : Int) else st.2.1 := by
  unfold putP
  rw [joinP_hd, if_neg (by omega), joinP_hd]
theorem put_tl {st : LSt} {i k : Nat} : (putP st i k).2.2 = st.2.2.set i (k : Int) := by
  unfold putP
  rw [joinP_tl, if_pos rfl, joinP_tl, if_neg (by omega)]
/-- a place put behind a list, as the document lays it -/
theorem lay_step {st : LSt} {i k : Nat} {t : Int} (hk : k < st.1.length) (hi : i < st.2.1.length) (hi2 : i < st.2.2.length) (e : st.2.2.getD i (-1) = t) (ht : -1 ≤ t ∧ t < st.1.length) (hne : t ≠ k) :
    (t < 0 → (putP st i k).1 = st.1.set k ((i : Int), -1, t) ∧ (putP st i k).2.1.getD i (-1) = k) ∧
    (0 ≤ t → (putP st i k).1 = (st.1.set k ((i : Int), -1, t)).set t.toNat ((nodAt (st.1.set k ((i : Int), -1, t)) t.toNat).1, (k : Int), (nodAt (st.1.set k ((i : Int), -1, t)) t.toNat).2.2) ∧ (putP st i k).2.1.getD i (-1) = st.2.1.getD i (-1)) ∧
    (putP st i k).2.2.getD i (-1) = k ∧ (putP st i k).2.1.take i = st.2.1.take i ∧ (putP st i k).2.2.take i = st.2.2.take i := by
  have hnod := put_nod (st := st) (i := i) hk (by rw [e]; exact ht)
  have hh := put_hd (st := st) (i := i) (k := k)
  have htl := put_tl (st := st) (i := i) (k := k)
  rw [e] at hnod hh
  refine ⟨fun h0 => ⟨nodAt_ext (by rw [(putP_len _ _ _).1]; simp) fun m hm => ?_, ?_⟩, fun h0 => ⟨nodAt_ext (by rw [(putP_len _ _ _).1]; simp) fun m hm => ?_, ?_⟩, ?_, ?_, ?_⟩
  · rw [hnod, nodAt_set _ _ _ _ hk]
    by_cases e1 : m = k
    · rw [if_pos e1, if_pos e1]
    · rw [if_neg e1, if_neg e1, if_neg (by omega)]
  · rw [hh, if_pos (by omega)]; simp [List.getD, hi]
  · rw [hnod, nodAt_set _ _ _ _ (by simp; omega), nodAt_set _ _ _ _ hk, nodAt_set _ _ _ _ hk]
    have hkt : ¬ t.toNat = k := by omega
    rw [if_neg hkt]
    by_cases e1 : m = k
    · rw [if_pos e1, if_neg (by omega), if_pos e1]
    · rw [if_neg e1]
      by_cases e2 : m = t.toNat
      · rw [if_pos e2, if_pos (by omega), e2]
      · rw [if_neg e2, if_neg (by omega), if_neg e1]
  · rw [hh, if_neg (by omega)]
  · rw [htl]; simp [List.getD, hi2]
  · rw [hh]
    split
    · exact List.take_set_of_le (Nat.le_refl _)
    · rfl
  · rw [htl]; exact List.take_set_of_le (Nat.le_refl _)

/-- lists whose places are there, each once -/
structure GoodL (n : Nat) (L : List (List Int)) : Prop where
  bd : ∀ i (h : i < L.length), ∀ a ∈ L[i], 0 ≤ a ∧ a < (n : Int)
  nd : ∀ i (h : i < L.length), L[i].Nodup
  dj : ∀ i j (hi : i < L.length) (hj : j < L.length) (a : Int), a ∈ L[i] → a ∈ L[j] → i = j
theorem rep_good {st : LSt} {L : List (List Int)} (h : Rep st L) : GoodL st.1.length L := ⟨fun i hi a ha => h.bd hi ha, fun i hi => h.nodup hi, fun i j hi hj a ha hb => h.disj hi hj ha hb⟩
def layF (i : Nat) (s : LSt) (a : Int) : LSt := putP s i a.toNat
/-- behind the first i lists -/
def layS (n : Nat) (L : List (List Int)) : Nat → LSt
  | 0 => newS n L.length
  | i + 1 => (L.getD i []).foldl (layF i) (layS n L i)
def layT (n : Nat) (L : List (List Int)) (i k : Nat) : LSt := ((L.getD i []).take k).foldl (layF i) (layS n L i)
def laidS (n : Nat) (L : List (List Int)) : LSt := layS n L L.length
def layM (L : List (List Int)) (i k : Nat) : List (List Int) := (List.range L.length).map fun j => if j < i then L.getD j [] else if j = i then (L.getD i []).take k else []
theorem layM_len (L : List (List Int)) (i k : Nat) : (layM L i k).length = L.length := by simp [layM]
theorem layM_get (L : List (List Int)) (i k j : Nat) (h : j < (layM L i k).length) : (layM L i k)[j] = if j < i then L.getD j [] else if j = i then (L.getD i []).take k else [] := by simp [layM]
theorem layT_zero (n : Nat) (L : List (List Int)) (i : Nat) : layT n L i 0 = layS n L i := by simp [layT]
theorem layT_full (n : Nat) (L : List (List Int)) (i : Nat) : layT n L i (L.getD i []).length = layS n L (i + 1) := by simp [layT, layS]
theorem layT_succ (n : Nat) (L : List (List Int)) (i k : Nat) (h : k < (L.getD i []).length) : layT n L i (k + 1) = putP (layT n L i k) i ((L.getD i [])[k]).toNat := by
  unfold layT
  rw [List.take_succ_eq_append_getElem h, List.foldl_append]; rfl
theorem layT_len (n : Nat) (L : List (List Int)) : ∀ i k, (layT n L i k).1.length = n ∧ (layT n L i k).2.1.length = L.length ∧ (layT n L i k).2.2.length = L.length := by
  have fold : ∀ (X : List Int) (i : Nat) (s : LSt), (X.foldl (layF i) s).1.length = s.1.length ∧ (X.foldl (layF i) s).2.1.length = s.2.1.length ∧ (X.foldl (layF i) s).2.2.length = s.2.2.length := by
    intro X
    induction X with
    | nil => intro i s; exact ⟨rfl, rfl, rfl⟩
    | cons a r ih =>
      intro i s
      rw [List.foldl_cons]
      obtain ⟨a1, a2, a3⟩ := ih i (layF i s a)
      obtain ⟨b1, b2, b3⟩ := putP_len s i a.toNat
      exact ⟨a1.trans b1, a2.trans b2, a3.trans b3⟩
  have base : ∀ i, (layS n L i).1.length = n ∧ (layS n L i).2.1.length = L.length ∧ (layS n L i).2.2.length = L.length := by
    intro i
    induction i with
    | zero => simp [layS, newS]
    | succ i ih =>
      obtain ⟨a1, a2, a3⟩ := fold (L.getD i []) i (layS n L i)
      exact ⟨a1.trans ih.1, a2.trans ih.2.1, a3.trans ih.2.2⟩
  intro i k
  obtain ⟨a1, a2, a3⟩ := fold ((L.getD i []).take k) i (layS n L i)
  exact ⟨a1.trans (base i).1, a2.trans (base i).2.1, a3.trans (base i).2.2⟩
theorem lay_fresh {n : Nat} {L : List (List Int)} (hg : GoodL n L) {i k : Nat} (hi : i < L.length) (hk : k < (L.getD i []).length) : ∀ j (hj : j < (layM L i k).length), (L.getD i [])[k] ∉ (layM L i k)[j] := by
  have e : L.getD i [] = L[i] := by simp [List.getD, hi]
  intro j hj hm
  have hj' : j < L.length := by rw [layM_len] at hj; exact hj
  have ej : L.getD j [] = L[j] := by simp [List.getD, hj']
  rw [layM_get] at hm
  split at hm
  · rw [ej] at hm
    have hmi : (L.getD i [])[k] ∈ L[i] := by
      have := List.getElem_mem hk
      rwa [← e]
    have := hg.dj i j hi hj' _ hmi hm
    omega
  · split at hm
    · have hnd := hg.nd i hi
      rw [← e] at hnd
      obtain ⟨t, ht, e2⟩ := List.mem_iff_getElem.1 hm
      rw [List.length_take] at ht
      rw [List.getElem_take] at e2
      unfold List.Nodup at hnd
      exact (List.pairwise_iff_getElem.1 hnd) t k (by omega) hk (by omega) e2
    · cases hm
theorem lay_rep {n : Nat} {L : List (List Int)} (hg : GoodL n L) : ∀ i, i < L.length → ∀ k, k ≤ (L.getD i []).length → Rep (layT n L i k) (layM L i k) := by
  have inner : ∀ i, i < L.length → Rep (layT n L i 0) (layM L i 0) → ∀ k, k ≤ (L.getD i []).length → Rep (layT n L i k) (layM L i k) := by
    intro i hi h0 k
    induction k with
    | zero => intro _; exact h0
    | succ k ih =>
      intro hk
      have hr := ih (by omega)
      have hkl : k < (L.getD i []).length := by omega
      have e : L.getD i [] = L[i] := by simp [List.getD, hi]
      have hb : 0 ≤ (L.getD i [])[k] ∧ (L.getD i [])[k] < (n : Int) := hg.bd i hi _ (by have := List.getElem_mem hkl; rwa [← e])
      obtain ⟨x, hx⟩ : ∃ x : Nat, (L.getD i [])[k] = x := ⟨(L.getD i [])[k].toNat, by omega⟩
      have hp := rep_put hr (i := i) (k := x) (by rw [layM_len]; exact hi) (by rw [(layT_len n L i k).1]; omega) (fun j hj => by rw [← hx]; exact lay_fresh hg hi hkl j hj)
      rw [layT_succ _ _ _ _ hkl, hx, Int.toNat_natCast]
      have e2 : layM L i (k + 1) = (layM L i k).set i ((layM L i k)[i]'(by rw [layM_len]; exact hi) ++ [(x : Int)]) := by
        refine List.ext_getElem (by simp [layM_len]) fun j h1 h2 => ?_
        rw [layM_get, List.getElem_set]
        by_cases hji : i = j
        · subst hji
          rw [if_neg (by omega), if_pos rfl, if_pos rfl, layM_get, if_neg (by omega), if_pos rfl, ← hx]
          exact List.take_succ_eq_append_getElem hkl
        · rw [if_neg hji, layM_get]
          by_cases h3 : j < i
          · rw [if_pos h3, if_pos h3]
          · rw [if_neg h3, if_neg h3, if_neg (Ne.symm hji), if_neg (Ne.symm hji)]
      rw [e2]; exact hp
  intro i
  induction i with
  | zero =>
    intro hi
    refine inner 0 hi ?_
    rw [layT_zero]
    have : layM L 0 0 = List.replicate L.length [] := by
      refine List.ext_getElem (by simp [layM_len]) fun j h1 h2 => ?_
      rw [layM_get]; simp
    rw [this]
    exact rep_newS n L.length
  | succ i ih =>
    intro hi
    refine inner (i + 1) hi ?_
    have h := ih (by omega) (L.getD i []).length (Nat.le_refl _)
    rw [layT_full] at h
    rw [layT_zero]
    have : layM L (i + 1) 0 = layM L i (L.getD i []).length := by
      refine List.ext_getElem (by simp [layM_len]) fun j h1 h2 => ?_
      rw [layM_get, layM_get, List.take_length]
      by_cases h3 : j < i
      · rw [if_pos (by omega), if_pos h3]
      · by_cases h4 : j = i
        · subst h4; rw [if_pos (by omega), if_neg h3, if_pos rfl]
        · rw [if_neg (by omega), if_neg h3, if_neg h4]; simp
    rw [this]; exact h
/-- what laying one place wants to know, and tells -/
theorem lay_facts {n : Nat} {L : List (List Int)} (hg : GoodL n L) {i t : Nat} (hi : i < L.length) {X : List Int} (hX : L.getD i [] = X) (ht : t < X.length) :
    ∃ (x : Nat) (p : Int), X[t] = (x : Int) ∧ x < n ∧ (layT n L i t).2.2.getD i (-1) = p ∧ (-1 ≤ p ∧ p < (n : Int)) ∧ p ≠ (x : Int) ∧
      (p < 0 → (layT n L i (t + 1)).1 = (layT n L i t).1.set x ((i : Int), -1, p) ∧ (layT n L i (t + 1)).2.1.getD i (-1) = x) ∧
      (0 ≤ p → (layT n L i (t + 1)).1 = ((layT n L i t).1.set x ((i : Int), -1, p)).set p.toNat ((nodAt ((layT n L i t).1.set x ((i : Int), -1, p)) p.toNat).1, (x : Int), (nodAt ((layT n L i t).1.set x ((i : Int), -1, p)) p.toNat).2.2) ∧ (layT n L i (t + 1)).2.1.getD i (-1) = (layT n L i t).2.1.getD i (-1)) ∧
      (layT n L i (t + 1)).2.2.getD i (-1) = x ∧ (layT n L i (t + 1)).2.1.take i = (layT n L i t).2.1.take i ∧ (layT n L i (t + 1)).2.2.take i = (layT n L i t).2.2.take i := by
  subst hX
  have hr := lay_rep hg i hi t (by omega)
  have e : L.getD i [] = L[i] := by simp [List.getD, hi]
  have hb : 0 ≤ (L.getD i [])[t] ∧ (L.getD i [])[t] < (n : Int) := hg.bd i hi _ (by have := List.getElem_mem ht; rwa [← e])
  obtain ⟨x, hx⟩ : ∃ x : Nat, (L.getD i [])[t] = x := ⟨(L.getD i [])[t].toNat, by omega⟩
  obtain ⟨l1, l2, l3⟩ := layT_len n L i t
  have him : i < (layM L i t).length := by rw [layM_len]; exact hi
  have htl := rep_tail_rng hr him
  rw [l1] at htl
  have hfr := lay_fresh hg hi ht i him
  have hne : (layT n L i t).2.2.getD i (-1) ≠ (x : Int) := by
    have e1 : (layT n L i t).2.2.getD i (-1) = lastN (-1) (layM L i t)[i] := by rw [hr.tails]; simp [List.getD, him]
    rw [e1]
    intro h2
    by_cases hM : (layM L i t)[i] = []
    · rw [hM] at h2; rw [show lastN (-1) [] = -1 from rfl] at h2; omega
    · have := lastN_mem (-1) _ hM
      rw [h2, ← hx] at this
      exact hfr this
  have hs := lay_step (st := layT n L i t) (i := i) (k := x) (t := (layT n L i t).2.2.getD i (-1)) (by rw [l1]; omega) (by rw [l2]; exact hi) (by rw [l3]; exact hi) rfl (by rw [l1]; exact htl) hne
  have e2 : layT n L i (t + 1) = putP (layT n L i t) i x := by rw [layT_succ _ _ _ _ ht, hx, Int.toNat_natCast]
  rw [← e2] at hs
  exact ⟨x, _, hx, by omega, rfl, htl, hne, hs.1, hs.2.1, hs.2.2.1, hs.2.2.2.1, hs.2.2.2.2⟩
theorem lay_start {n : Nat} {L : List (List Int)} (hg : GoodL n L) {i : Nat} (hi : i < L.length) : (layT n L i 0).2.2.getD i (-1) = -1 ∧ (layT n L i 0).2.1.getD i (-1) = -1 := by
  have hr := lay_rep hg i hi 0 (Nat.zero_le _)
  have him : i < (layM L i 0).length := by rw [layM_len]; exact hi
  have e : (layM L i 0)[i] = [] := by rw [layM_get, if_neg (by omega), if_pos rfl]; rfl
  constructor
  · rw [hr.tails]; simp [List.getD, him, e]; rfl
  · rw [hr.heads]; simp [List.getD, him, e]; rfl
theorem laid_rep {n : Nat} {L : List (List Int)} (hg : GoodL n L) : Rep (laidS n L) L := by
  cases hl : L.length with
  | zero =>
    have : L = [] := List.eq_nil_of_length_eq_zero hl
    subst this
    exact rep_newS n 0
  | succ m =>
    have h := lay_rep hg m (by omega) (L.getD m []).length (Nat.le_refl _)
    rw [layT_full] at h
    have e : layM L m (L.getD m []).length = L := by
      refine List.ext_getElem (by simp [layM_len]) fun j h1 h2 => ?_
      have ej : L.getD j [] = L[j] := by simp [List.getD, h2]
      rw [layM_get, List.take_length]
      by_cases h3 : j < m
      · rw [if_pos h3, ej]
      · have : j = m := by rw [layM_len] at h1; omega
        rw [if_neg h3, if_pos this, ← this, ej]
    rw [e] at h
    unfold laidS
    rw [hl]; exact h
theorem laidS_len (n : Nat) (L : List (List Int)) : (laidS n L).1.length = n ∧ (laidS n L).2.1.length = L.length ∧ (laidS n L).2.2.length = L.length := by
  have := layT_len n L L.length 0
  rw [layT_zero] at this; exact this
end Go.Proofs.Ytkcenadenmkgnaa
