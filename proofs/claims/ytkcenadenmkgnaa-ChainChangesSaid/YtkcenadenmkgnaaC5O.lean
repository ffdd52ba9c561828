/- Plain mathematics of lists by links: turned, and one put behind another. -/
import Derived.Test.YtkcenadenmkgnaaC5N
namespace Go.Proofs.Ytkcenadenmkgnaa
open Go.RowKit
set_option linter.unusedVariables false
set_option linter.unusedSimpArgs false

theorem rep_tail_rng {st : LSt} {L : List (List Int)} (h : Rep st L) {i : Nat} (hi : i < L.length) : -1 ≤ st.2.2.getD i (-1) ∧ st.2.2.getD i (-1) < st.1.length := by
  have e : st.2.2.getD i (-1) = lastN (-1) L[i] := by simp [h.tails, List.getD, hi]
  have := la_bd (n := st.1.length) fun a (ha : a ∈ L[i]) => h.bd hi ha
  rw [e]; omega
theorem rep_hd {st : LSt} {L : List (List Int)} (h : Rep st L) {i : Nat} (hi : i < L.length) : st.2.1.getD i (-1) = hdI (-1) L[i] := by simp [h.heads, List.getD, hi]
/-- a place of a list, and its neighbours -/
theorem rep_mem {st : LSt} {L : List (List Int)} (h : Rep st L) {i : Nat} (hi : i < L.length) {k : Nat} (hm : (k : Int) ∈ L[i]) :
    k < st.1.length ∧ (nodAt st.1 k).1 = i ∧ (-1 ≤ (nodAt st.1 k).2.1 ∧ (nodAt st.1 k).2.1 < st.1.length) ∧ (-1 ≤ (nodAt st.1 k).2.2 ∧ (nodAt st.1 k).2.2 < st.1.length) := by
  obtain ⟨A, B, e⟩ := List.append_of_mem hm
  have s := h.segs i hi
  have hb := fun a (ha : a ∈ L[i]) => h.bd hi ha
  rw [e] at s hb
  obtain ⟨a1, a2, a3⟩ := seg_at s
  rw [Int.toNat_natCast] at a3
  have b1 := hd_bd (n := st.1.length) (A := B) fun a ha => hb a (by simp [ha])
  have b2 := la_bd (n := st.1.length) (A := A) fun a ha => hb a (by simp [ha])
  rw [a3]
  exact ⟨by omega, rfl, by simp only; omega, by simp only; omega⟩
/-- a place taken out of one list and put behind another, or the same -/
def splF (j : Nat) (s : LSt) (a : Int) : LSt := putP (outP s a.toNat) j a.toNat
theorem splF_len (j : Nat) (s : LSt) (a : Int) : (splF j s a).1.length = s.1.length ∧ (splF j s a).2.1.length = s.2.1.length ∧ (splF j s a).2.2.length = s.2.2.length := by
  unfold splF; simp [putP_len, outP_len]
theorem rep_move {st : LSt} {L : List (List Int)} (h : Rep st L) {i j : Nat} (hi : i < L.length) (hj : j < L.length) {a : Int} {A B : List Int} (e : L[i] = A ++ a :: B) :
    Rep (splF j st a) ((L.set i (A ++ B)).set j ((L.set i (A ++ B))[j]'(by simpa using hj) ++ [a])) := by
  have ha := h.bd hi (a := a) (by rw [e]; simp)
  obtain ⟨k, rfl⟩ : ∃ k : Nat, a = k := ⟨a.toNat, by omega⟩
  have hnd := h.nodup hi
  rw [e] at hnd
  have ho := rep_out h hi e
  unfold splF
  rw [Int.toNat_natCast]
  refine rep_put ho (by simpa using hj) (by rw [(outP_len _ _).1]; omega) fun m hm => ?_
  rw [List.length_set] at hm
  rw [List.getElem_set]
  split
  · intro hin
    rcases List.mem_append.1 hin with h1 | h1
    · exact (List.nodup_append.1 hnd).2.2 _ h1 _ (List.mem_cons_self ..) rfl
    · exact (List.nodup_cons.1 (List.nodup_append.1 hnd).2.1).1 h1
  · rename_i hne
    intro hin
    exact hne (h.disj hi hm (by rw [e]; simp) hin)
/-- all of a list put behind another one -/
theorem rep_fold {L : List (List Int)} {i j : Nat} (hij : i ≠ j) (hi : i < L.length) (hj : j < L.length) {st : LSt} (h : Rep st L) : ∀ t, t ≤ L[i].length →
    Rep ((L[i].take t).foldl (splF j) st) ((L.set i (L[i].drop t)).set j (L[j] ++ L[i].take t)) := by
  intro t
  induction t with
  | zero =>
    intro _
    simp only [List.take_zero, List.drop_zero, List.append_nil, List.foldl_nil, List.set_getElem_self]
    exact h
  | succ t ih =>
    intro ht
    have hr := ih (by omega)
    have hlt : t < L[i].length := by omega
    have hli : i < ((L.set i (L[i].drop t)).set j (L[j] ++ L[i].take t)).length := by simpa using hi
    have hlj : j < ((L.set i (L[i].drop t)).set j (L[j] ++ L[i].take t)).length := by simpa using hj
    have e : ((L.set i (L[i].drop t)).set j (L[j] ++ L[i].take t))[i] = [] ++ L[i][t] :: L[i].drop (t + 1) := by
      rw [List.getElem_set_ne (Ne.symm hij), List.getElem_set_self, List.nil_append]
      exact List.drop_eq_getElem_cons hlt
    have hm := rep_move hr hli hlj e
    rw [List.take_succ_eq_append_getElem hlt, List.foldl_append, List.foldl_cons, List.foldl_nil]
    have e2 : (((L.set i (L[i].drop t)).set j (L[j] ++ L[i].take t)).set i ([] ++ L[i].drop (t + 1))) = (L.set i (L[i].drop (t + 1))).set j (L[j] ++ L[i].take t) := by
      refine List.ext_getElem (by simp) fun m h1 h2 => ?_
      simp only [List.getElem_set, List.nil_append]
      by_cases hmi : i = m
      · subst hmi
        rw [if_pos rfl, if_neg (Ne.symm hij), if_pos rfl]
      · by_cases hmj : j = m
        · subst hmj; rw [if_neg hmi, if_pos rfl]; simp
        · rw [if_neg hmi, if_neg hmj, if_neg hmj, if_neg hmi, if_neg hmi]
    simp only [e2] at hm
    rw [List.set_set, List.getElem_set_self, List.append_assoc] at hm
    exact hm
end Go.Proofs.Ytkcenadenmkgnaa
