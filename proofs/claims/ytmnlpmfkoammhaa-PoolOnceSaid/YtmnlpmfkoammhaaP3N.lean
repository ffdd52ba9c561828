/- Layer 3: the mathematics of a pool: what a state that may be is, and what Take and Give leave. -/
import Derived.Test.YtmnlpmfkoammhaaP3J
import Derived.Test.YtmnlpmfkoammhaaP3K
namespace Go.Proofs.Ytmnlpmfkoammhaa
open Go.RowKit
set_option linter.unusedVariables false
set_option linter.unusedSimpArgs false

/-- a state that may be, in words -/
def OkSt (st : St) : Prop :=
  1 ≤ st.1.length ∧ st.1.length ≤ 64 ∧ (∀ j, j < st.1.length → 0 ≤ (celAt st.1 j).1 ∧ (celAt st.1 j).1 ≤ 1048576 ∧ ((celAt st.1 j).2.1 = false → (celAt st.1 j).2.2 = 0)) ∧
  st.2.Nodup ∧ (∀ p ∈ st.2, ∃ k : Nat, p = k ∧ k < st.1.length ∧ (celAt st.1 k).2.1 = false ∧ (celAt st.1 k).1 < 1048576) ∧
  ∀ k, k < st.1.length → (celAt st.1 k).2.1 = false → (celAt st.1 k).1 < 1048576 → (k : Int) ∈ st.2
theorem any_iff {l : List Cel} {f : Cel → Bool} : l.any f = false ↔ ∀ j, j < l.length → f (celAt l j) = false := by
  rw [List.any_eq_false]
  constructor
  · intro h j hj
    rw [celAt_lt _ _ hj]
    have := h _ (List.getElem_mem hj)
    simpa using this
  · intro h c hc
    obtain ⟨j, hj, rfl⟩ := List.mem_iff_getElem.1 hc
    rw [← celAt_lt _ _ hj, h j hj]; simp
theorem free_iff {st : St} : freeB st = true ↔ st.2.Nodup ∧ (∀ p ∈ st.2, ∃ k : Nat, p = k ∧ k < st.1.length ∧ (celAt st.1 k).2.1 = false ∧ (celAt st.1 k).1 < 1048576) ∧
    ∀ k, k < st.1.length → (celAt st.1 k).2.1 = false → (celAt st.1 k).1 < 1048576 → (k : Int) ∈ st.2 := by
  unfold freeB
  rw [Bool.and_eq_true, Bool.and_eq_true, List.all_eq_true, decide_eq_true_iff, List.all_eq_true]
  constructor
  · rintro ⟨⟨h1, h2⟩, h3⟩
    refine ⟨h2, fun p hp => ?_, fun k hk hl hg => ?_⟩
    · have := h1 p hp
      unfold plB canGo at this
      simp only [Bool.and_eq_true, decide_eq_true_eq, Bool.not_eq_true'] at this
      obtain ⟨⟨ha, hb⟩, hc, hd⟩ := this
      exact ⟨p.toNat, by omega, by omega, hc, hd⟩
    · have := h3 k (List.mem_range.2 hk)
      simpa [canGo, hl, hg] using this
  · rintro ⟨h2, h1, h3⟩
    refine ⟨⟨fun p hp => ?_, h2⟩, fun k hk => ?_⟩
    · obtain ⟨k, rfl, hk, hl, hg⟩ := h1 p hp
      unfold plB canGo
      simp only [Bool.and_eq_true, decide_eq_true_eq, Int.toNat_natCast, hl, Bool.not_false]
      exact ⟨⟨by omega, by omega⟩, trivial, hg⟩
    · have hk := List.mem_range.1 hk
      cases hc : canGo (celAt st.1 k) with
      | false => rfl
      | true =>
        unfold canGo at hc
        simp only [Bool.and_eq_true, decide_eq_true_eq, Bool.not_eq_true'] at hc
        simp [h3 k hk hc.1 hc.2]
theorem chk_iff {st : St} : chkN st = 0 ↔ OkSt st := by
  constructor
  · intro h
    obtain ⟨h1, h2, h3, h4, h5⟩ := chk_parts h
    obtain ⟨f1, f2, f3⟩ := free_iff.1 h5
    refine ⟨h1, h2, fun j hj => ?_, f1, f2, f3⟩
    have g1 := any_iff.1 h3 j hj
    have g2 := any_iff.1 h4 j hj
    unfold genBad at g1
    unfold valBad at g2
    simp only [Bool.or_eq_false_iff, decide_eq_false_iff_not] at g1
    refine ⟨by omega, by omega, fun hl => ?_⟩
    rw [hl] at g2
    simpa using g2
  · rintro ⟨h1, h2, h3, f1, f2, f3⟩
    unfold chkN
    rw [if_neg (by omega), if_neg, if_neg, if_pos (free_iff.2 ⟨f1, f2, f3⟩)]
    · rw [Bool.not_eq_true, any_iff]
      intro j hj
      obtain ⟨a, b, c⟩ := h3 j hj
      unfold valBad
      cases hl : (celAt st.1 j).2.1 with
      | true => rfl
      | false => simp [c hl]
    · rw [Bool.not_eq_true, any_iff]
      intro j hj
      obtain ⟨a, b, c⟩ := h3 j hj
      unfold genBad
      simp; omega
theorem celAt_set {l : List Cel} {k : Nat} {c : Cel} (hk : k < l.length) (j : Nat) : celAt (l.set k c) j = if j = k then c else celAt l j := by
  unfold celAt
  by_cases h : j = k
  · subst h; simp [List.getD, hk]
  · rw [if_neg h]; simp [List.getD, List.getElem?_set_ne (Ne.symm h)]
theorem hand_eq {g : Int} {k : Nat} (h0 : 0 ≤ g) (h1 : g ≤ 1048576) (hk : k < 64) : wrap64 (wrap64 (64 * g) + k) = 64 * g + k := by
  rw [IntWalk.wrap64_in (64 * g) ⟨by omega, by omega⟩, IntWalk.wrap64_in _ ⟨by omega, by omega⟩]
/-- what is taken, where there is a free place -/
theorem take_ok {st : St} {v : Int} (h : OkSt st) (hf : st.2 ≠ []) : ∃ k : Nat, k < st.1.length ∧ (celAt st.1 k).2.1 = false ∧ (celAt st.1 k).1 < 1048576 ∧ st.2 = st.2.take (st.2.length - 1) ++ [(k : Int)] ∧
    takeN st v = ((st.1.set k ((celAt st.1 k).1, true, v), st.2.take (st.2.length - 1)), 64 * (celAt st.1 k).1 + k, 0) ∧ OkSt (takeN st v).1 := by
  have hc := chk_iff.2 h
  obtain ⟨h1, h2, h3, f1, f2, f3⟩ := h
  obtain ⟨m, hm⟩ : ∃ m, st.2.length = m + 1 := ⟨st.2.length - 1, by have := List.length_pos_iff.2 hf; omega⟩
  obtain ⟨k, hk, hkl, hl, hg⟩ := f2 (st.2[m]'(by omega)) (List.getElem_mem _)
  have e := takeN_yes (v := v) hc hm hk hkl rfl
  obtain ⟨a0, a1, -⟩ := h3 k hkl
  have hw : wrap64 (wrap64 (64 * (celAt st.1 k).1) + k) = 64 * (celAt st.1 k).1 + k := hand_eq a0 a1 (by omega)
  have hcut : st.2 = st.2.take m ++ [(k : Int)] := by
    have := List.take_succ_eq_append_getElem (l := st.2) (i := m) (by omega)
    rw [hk, ← hm, List.take_length] at this
    exact this
  rw [← celAt_lt _ _ hkl, hw] at e
  refine ⟨k, hkl, hl, hg, by rw [hm, Nat.add_sub_cancel]; exact hcut, by rw [e, hm, Nat.add_sub_cancel], ?_⟩
  rw [e]
  have hnd : (st.2.take m).Nodup ∧ ¬ (k : Int) ∈ st.2.take m := by
    rw [hcut] at f1
    have := List.nodup_append.1 f1
    exact ⟨this.1, fun hx => this.2.2 _ hx _ (List.mem_singleton.2 rfl) rfl⟩
  refine ⟨by simpa using h1, by simpa using h2, fun j hj => ?_, hnd.1, fun p hp => ?_, fun j hj hlj hgj => ?_⟩
  · rw [celAt_set hkl]
    split
    · exact ⟨a0, a1, fun hx => by cases hx⟩
    · exact h3 j (by simpa using hj)
  · obtain ⟨q, rfl, hq, hlq, hgq⟩ := f2 p (by rw [hcut]; exact List.mem_append_left _ hp)
    have hne : q ≠ k := fun e => hnd.2 (by rw [← e]; exact hp)
    exact ⟨q, rfl, by simpa using hq, by rw [celAt_set hkl, if_neg hne]; exact hlq, by rw [celAt_set hkl, if_neg hne]; exact hgq⟩
  · rw [celAt_set hkl] at hlj hgj
    by_cases hne : j = k
    · rw [if_pos hne] at hlj; cases hlj
    · rw [if_neg hne] at hlj hgj
      have := f3 j (by simpa using hj) hlj hgj
      rw [hcut] at this
      rcases List.mem_append.1 this with hx | hx
      · exact hx
      · have := List.mem_singleton.1 hx; omega
theorem placeF_spec (l : List Cel) (h : Int) : ∀ (r : List Cel) (i : Nat), r = l.drop i → i ≤ l.length →
    (placeF r h i = -1 ∧ ∀ j, i ≤ j → j < l.length → hasH h j (celAt l j) = false) ∨ ∃ k : Nat, placeF r h i = k ∧ i ≤ k ∧ k < l.length ∧ hasH h k (celAt l k) = true := by
  intro r
  induction r with
  | nil =>
    intro i hr hi
    left
    refine ⟨rfl, fun j h1 h2 => ?_⟩
    have := congrArg List.length hr
    rw [List.length_drop, List.length_nil] at this
    omega
  | cons c r ih =>
    intro i hr hi
    have hlt : i < l.length := by
      have := congrArg List.length hr
      rw [List.length_drop, List.length_cons] at this
      omega
    rw [List.drop_eq_getElem_cons hlt] at hr
    obtain ⟨hc, hr2⟩ := List.cons.inj hr
    subst hc
    unfold placeF
    cases hh : hasH h i l[i] with
    | true => right; exact ⟨i, by simp, Nat.le_refl _, hlt, by rw [celAt_lt _ _ hlt]; exact hh⟩
    | false =>
      rcases ih (i + 1) hr2 (by omega) with ⟨h1, h2⟩ | ⟨k, h1, h2, h3, h4⟩
      · left
        refine ⟨by simpa using h1, fun j hj hjl => ?_⟩
        by_cases e : j = i
        · subst e; rw [celAt_lt _ _ hlt]; exact hh
        · exact h2 j (by omega) hjl
      · right; exact ⟨k, by simpa using h1, by omega, h3, h4⟩
/-- the place of a handle, in words -/
theorem place_yes {st : St} (h : OkSt st) {k : Nat} (hk : k < st.1.length) (hl : (celAt st.1 k).2.1 = true) : placeN st.1 (64 * (celAt st.1 k).1 + k) = k := by
  obtain ⟨h1, h2, h3, -⟩ := h
  obtain ⟨a0, a1, -⟩ := h3 k hk
  have hh : hasH (64 * (celAt st.1 k).1 + k) k (celAt st.1 k) = true := by
    unfold hasH; rw [hl, hand_eq a0 a1 (by omega)]; simp
  rcases placeF_spec st.1 (64 * (celAt st.1 k).1 + k) st.1 0 rfl (Nat.zero_le _) with ⟨-, g⟩ | ⟨q, g1, -, g3, g4⟩
  · rw [g k (Nat.zero_le _) hk] at hh; cases hh
  · unfold placeN
    rw [g1]
    obtain ⟨b0, b1, -⟩ := h3 q g3
    unfold hasH at g4
    simp only [Bool.and_eq_true, decide_eq_true_eq] at g4
    rw [hand_eq b0 b1 (by omega)] at g4
    omega
theorem place_no {st : St} (h : OkSt st) {x : Int} (hn : ∀ k, k < st.1.length → (celAt st.1 k).2.1 = true → 64 * (celAt st.1 k).1 + k ≠ x) : placeN st.1 x = -1 := by
  obtain ⟨h1, h2, h3, -⟩ := h
  rcases placeF_spec st.1 x st.1 0 rfl (Nat.zero_le _) with ⟨g, -⟩ | ⟨q, g1, -, g3, g4⟩
  · exact g
  · obtain ⟨b0, b1, -⟩ := h3 q g3
    unfold hasH at g4
    simp only [Bool.and_eq_true, decide_eq_true_eq] at g4
    rw [hand_eq b0 b1 (by omega)] at g4
    exact absurd g4.2 (hn q g3 g4.1)
/-- what is given back -/
theorem give_ok {st : St} (h : OkSt st) {k : Nat} (hk : k < st.1.length) (hl : (celAt st.1 k).2.1 = true) (hg : (celAt st.1 k).1 + 1 < 1048576) :
    giveN st (64 * (celAt st.1 k).1 + k) = ((st.1.set k ((celAt st.1 k).1 + 1, false, 0), st.2 ++ [(k : Int)]), 0) ∧ OkSt (giveN st (64 * (celAt st.1 k).1 + k)).1 := by
  have hp := place_yes h hk hl
  have hc := chk_iff.2 h
  obtain ⟨h1, h2, h3, f1, f2, f3⟩ := h
  obtain ⟨a0, a1, -⟩ := h3 k hk
  have e := giveN_yes hc hp hk rfl
  rw [← celAt_lt _ _ hk, IntWalk.wrap64_in ((celAt st.1 k).1 + 1) ⟨by omega, by omega⟩, if_pos hg] at e
  refine ⟨e, ?_⟩
  rw [e]
  have hnk : ¬ (k : Int) ∈ st.2 := fun hx => by
    obtain ⟨q, hq, -, hlq, -⟩ := f2 _ hx
    obtain rfl : k = q := by omega
    rw [hl] at hlq; cases hlq
  refine ⟨by simpa using h1, by simpa using h2, fun j hj => ?_, ?_, fun p hp' => ?_, fun j hj hlj hgj => ?_⟩
  · rw [celAt_set hk]
    split
    · exact ⟨by show 0 ≤ (celAt st.1 k).1 + 1; omega, by show (celAt st.1 k).1 + 1 ≤ _; omega, fun _ => rfl⟩
    · exact h3 j (by simpa using hj)
  · refine List.nodup_append.2 ⟨f1, by simp, fun x hx y hy e => ?_⟩
    rw [List.mem_singleton.1 hy] at e
    exact hnk (e ▸ hx)
  · rcases List.mem_append.1 hp' with hx | hx
    · obtain ⟨q, rfl, hq, hlq, hgq⟩ := f2 p hx
      have hne : q ≠ k := fun e => hnk (by rw [← e]; exact hx)
      exact ⟨q, rfl, by simpa using hq, by rw [celAt_set hk, if_neg hne]; exact hlq, by rw [celAt_set hk, if_neg hne]; exact hgq⟩
    · exact ⟨k, List.mem_singleton.1 hx, by simpa using hk, by rw [celAt_set hk, if_pos rfl], by rw [celAt_set hk, if_pos rfl]; exact hg⟩
  · rw [celAt_set hk] at hlj hgj
    by_cases hne : j = k
    · rw [hne]; exact List.mem_append_right _ (List.mem_singleton.2 rfl)
    · rw [if_neg hne] at hlj hgj
      exact List.mem_append_left _ (f3 j (by simpa using hj) hlj hgj)
/-- a new state may be -/
theorem new_ok {n : Int} (h0 : 1 ≤ n) (h1 : n ≤ 64) : newN n = ((List.replicate n.toNat zeroC, freeL n n.toNat), 0) ∧ OkSt (newN n).1 := by
  have e : newN n = ((List.replicate n.toNat zeroC, freeL n n.toNat), 0) := by unfold newN; rw [if_neg (by omega)]
  have hz : ∀ j, j < n.toNat → celAt (List.replicate n.toNat zeroC) j = zeroC := fun j hj => by
    rw [celAt_lt _ _ (by simpa using hj), List.getElem_replicate]
  refine ⟨e, ?_⟩
  rw [e]
  refine ⟨by simp; omega, by simp; omega, fun j hj => ?_, ?_, fun p hp => ?_, fun j hj hl hg => ?_⟩
  · rw [hz j (by simpa using hj)]; exact ⟨by decide, by decide, fun _ => rfl⟩
  · unfold freeL
    unfold List.Nodup
    rw [List.pairwise_map]
    refine List.Pairwise.imp ?_ List.nodup_range
    intro a b h e
    exact h (by omega)
  · unfold freeL at hp
    obtain ⟨i, hi, rfl⟩ := List.mem_map.1 hp
    have hi := List.mem_range.1 hi
    refine ⟨n.toNat - 1 - i, by omega, by simp; omega, ?_, ?_⟩
    · rw [hz _ (by omega)]
    · rw [hz _ (by omega)]; decide
  · have hj' : j < n.toNat := by simpa using hj
    exact List.mem_map.2 ⟨n.toNat - 1 - j, List.mem_range.2 (by omega), by omega⟩
end Go.Proofs.Ytmnlpmfkoammhaa
