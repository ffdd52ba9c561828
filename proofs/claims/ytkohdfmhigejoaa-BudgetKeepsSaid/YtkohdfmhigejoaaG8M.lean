/- Layer 8: what is charged and given back: mathematics. -/
import Derived.Test.YtkohdfmhigejoaaG8H
namespace Go.Proofs.Ytkohdfmhigejoaa
open Go.RowKit
set_option linter.unusedVariables false
set_option linter.unusedSimpArgs false

theorem sum_addAt {k : Int} (hk : kindB k = true) (a0 a1 a2 a3 a4 a5 d : Int) :
    sumN (addAt k 0 a0 d) (addAt k 1 a1 d) (addAt k 2 a2 d) (addAt k 3 a3 d) (addAt k 4 a4 d) (addAt k 5 a5 d) = sumN a0 a1 a2 a3 a4 a5 + d * costN k := by
  rcases kindB_at hk with rfl | rfl | rfl | rfl | rfl | rfl <;> simp [addAt, costN, sumN] <;> omega
theorem many_addAt {k : Int} (hk : kindB k = true) (a0 a1 a2 a3 a4 a5 d : Int) :
    manyAt k (addAt k 0 a0 d) (addAt k 1 a1 d) (addAt k 2 a2 d) (addAt k 3 a3 d) (addAt k 4 a4 d) (addAt k 5 a5 d) = manyAt k a0 a1 a2 a3 a4 a5 + d := by
  rcases kindB_at hk with rfl | rfl | rfl | rfl | rfl | rfl <;> simp [addAt, manyAt]
theorem many_bd {k M a0 a1 a2 a3 a4 a5 : Int} (hk : kindB k = true) (h : Smal M a0 a1 a2 a3 a4 a5) : 0 ≤ manyAt k a0 a1 a2 a3 a4 a5 ∧ manyAt k a0 a1 a2 a3 a4 a5 ≤ M := by
  unfold Smal at h
  rcases kindB_at hk with rfl | rfl | rfl | rfl | rfl | rfl <;> simp [manyAt] <;> omega
theorem addAt_back (k j a d : Int) : addAt k j (addAt k j a d) (-d) = a := by
  unfold addAt; split <;> omega
/-- numbers that are none below 0, and cost no more than there is -/
theorem small_of {c a0 a1 a2 a3 a4 a5 : Int} (h0 : 0 ≤ a0) (h1 : 0 ≤ a1) (h2 : 0 ≤ a2) (h3 : 0 ≤ a3) (h4 : 0 ≤ a4) (h5 : 0 ≤ a5) (h : sumN a0 a1 a2 a3 a4 a5 ≤ c) (hc : c ≤ 4096) : Smal 4096 a0 a1 a2 a3 a4 a5 := by
  unfold sumN at h
  unfold Smal
  omega
theorem addAt_nonneg {k j a d : Int} (ha : 0 ≤ a) (hd : k = j → 0 ≤ a + d) : 0 ≤ addAt k j a d := by
  unfold addAt
  split
  · exact hd (by assumption)
  · exact ha
theorem left_eq {c a0 a1 a2 a3 a4 a5 : Int} (h : chkN c a0 a1 a2 a3 a4 a5 = 0) : leftN c a0 a1 a2 a3 a4 a5 = c - sumN a0 a1 a2 a3 a4 a5 := if_pos h
theorem room_mul (c a0 a1 a2 a3 a4 a5 k : Int) (hk : kindB k = true) : roomN c a0 a1 a2 a3 a4 a5 k * costN k ≤ leftN c a0 a1 a2 a3 a4 a5 ∧ leftN c a0 a1 a2 a3 a4 a5 < (roomN c a0 a1 a2 a3 a4 a5 k + 1) * costN k := by
  obtain ⟨q0, q1⟩ := costN_pos hk
  have h1 := (Int.le_ediv_iff_mul_le (a := roomN c a0 a1 a2 a3 a4 a5 k) (b := leftN c a0 a1 a2 a3 a4 a5) (show 0 < costN k by omega)).1 (Int.le_refl _)
  refine ⟨h1, ?_⟩
  have h2 := room_step (c := c) (a0 := a0) (a1 := a1) (a2 := a2) (a3 := a3) (a4 := a4) (a5 := a5) hk (roomN c a0 a1 a2 a3 a4 a5 k)
  have h3 : ¬ (roomN c a0 a1 a2 a3 a4 a5 k + 1) * costN k ≤ leftN c a0 a1 a2 a3 a4 a5 := fun h => by have := h2.1 h; omega
  omega
theorem mul_le_room {c a0 a1 a2 a3 a4 a5 k n : Int} (hk : kindB k = true) : n * costN k ≤ leftN c a0 a1 a2 a3 a4 a5 ↔ n ≤ roomN c a0 a1 a2 a3 a4 a5 k := by
  have := room_step (c := c) (a0 := a0) (a1 := a1) (a2 := a2) (a3 := a3) (a4 := a4) (a5 := a5) hk (n - 1)
  rw [show n - 1 + 1 = n by omega] at this
  exact this
/-- d more of a kind, if they are there to be given back, and cost no more than is left -/
theorem chk_add {c a0 a1 a2 a3 a4 a5 k d : Int} (h : chkN c a0 a1 a2 a3 a4 a5 = 0) (hk : kindB k = true) (h1 : 0 ≤ manyAt k a0 a1 a2 a3 a4 a5 + d) (h2 : d * costN k ≤ leftN c a0 a1 a2 a3 a4 a5) :
    chkN c (addAt k 0 a0 d) (addAt k 1 a1 d) (addAt k 2 a2 d) (addAt k 3 a3 d) (addAt k 4 a4 d) (addAt k 5 a5 d) = 0 := by
  obtain ⟨hs, hc, hq0, hq1⟩ := chk0 h
  rw [left_eq h] at h2
  have hsum := sum_addAt hk a0 a1 a2 a3 a4 a5 d
  unfold Smal at hs
  refine chk_of (small_of (c := c) ?_ ?_ ?_ ?_ ?_ ?_ (by rw [hsum]; omega) hc.2) hc (by rw [hsum]; omega) <;>
    exact addAt_nonneg (by omega) (fun e => by subst e; simpa [manyAt] using h1)
theorem takeD_chk {c a0 a1 a2 a3 a4 a5 k n : Int} (h : chkN c a0 a1 a2 a3 a4 a5 = 0) (hk : kindB k = true) (hn : 0 ≤ n) :
    chkN c (addAt k 0 a0 (takeD c a0 a1 a2 a3 a4 a5 k n)) (addAt k 1 a1 (takeD c a0 a1 a2 a3 a4 a5 k n)) (addAt k 2 a2 (takeD c a0 a1 a2 a3 a4 a5 k n)) (addAt k 3 a3 (takeD c a0 a1 a2 a3 a4 a5 k n)) (addAt k 4 a4 (takeD c a0 a1 a2 a3 a4 a5 k n)) (addAt k 5 a5 (takeD c a0 a1 a2 a3 a4 a5 k n)) = 0 := by
  have hm := many_bd hk (chk0 h).1
  have hl := leftN_bd c a0 a1 a2 a3 a4 a5
  unfold takeD
  split
  · rename_i hB
    unfold takeB at hB
    simp only [Bool.and_eq_true, decide_eq_true_eq] at hB
    exact chk_add h hk (by omega) ((mul_le_room hk).2 hB.2)
  · exact chk_add h hk (by omega) (by rw [Int.zero_mul]; exact hl.1)
theorem takeB_iff {c a0 a1 a2 a3 a4 a5 k n : Int} (h : chkN c a0 a1 a2 a3 a4 a5 = 0) (hk : kindB k = true) (hn : 0 ≤ n) : takeB c a0 a1 a2 a3 a4 a5 k n = decide (sumN a0 a1 a2 a3 a4 a5 + n * costN k ≤ c) := by
  unfold takeB
  rw [may_of hn hk h, Bool.true_and, Bool.eq_iff_iff, decide_eq_true_iff, decide_eq_true_iff, ← mul_le_room hk, left_eq h]
  omega
theorem giveB_iff {c a0 a1 a2 a3 a4 a5 k n : Int} (h : chkN c a0 a1 a2 a3 a4 a5 = 0) (hk : kindB k = true) (hn : 0 ≤ n) : giveB c a0 a1 a2 a3 a4 a5 k n = decide (n ≤ manyAt k a0 a1 a2 a3 a4 a5) := by
  unfold giveB
  rw [may_of hn hk h, Bool.true_and]
theorem giveD_chk {c a0 a1 a2 a3 a4 a5 k n : Int} (h : chkN c a0 a1 a2 a3 a4 a5 = 0) (hk : kindB k = true) (hn : 0 ≤ n) :
    chkN c (addAt k 0 a0 (giveD c a0 a1 a2 a3 a4 a5 k n)) (addAt k 1 a1 (giveD c a0 a1 a2 a3 a4 a5 k n)) (addAt k 2 a2 (giveD c a0 a1 a2 a3 a4 a5 k n)) (addAt k 3 a3 (giveD c a0 a1 a2 a3 a4 a5 k n)) (addAt k 4 a4 (giveD c a0 a1 a2 a3 a4 a5 k n)) (addAt k 5 a5 (giveD c a0 a1 a2 a3 a4 a5 k n)) = 0 := by
  have hm := many_bd hk (chk0 h).1
  have hl := leftN_bd c a0 a1 a2 a3 a4 a5
  obtain ⟨q0, q1⟩ := costN_pos hk
  unfold giveD
  split
  · rename_i hB
    rw [giveB_iff h hk hn, decide_eq_true_eq] at hB
    refine chk_add h hk (by omega) ?_
    have := Int.mul_nonneg hn (show 0 ≤ costN k by omega)
    rw [Int.neg_mul]
    omega
  · exact chk_add h hk (by omega) (by rw [Int.zero_mul]; exact hl.1)
/-- as many as fit: they fit, and no more; they can be given back; nothing fits behind them -/
theorem back_facts {c a0 a1 a2 a3 a4 a5 k : Int} (h : chkN c a0 a1 a2 a3 a4 a5 = 0) (hk : kindB k = true) :
    ∃ n : Int, fitN c a0 a1 a2 a3 a4 a5 k 4096 = n ∧ (0 ≤ n ∧ n ≤ 4096) ∧ takeB c a0 a1 a2 a3 a4 a5 k n = true ∧ takeB c a0 a1 a2 a3 a4 a5 k (n + 1) = false ∧
      giveB c (addAt k 0 a0 n) (addAt k 1 a1 n) (addAt k 2 a2 n) (addAt k 3 a3 n) (addAt k 4 a4 n) (addAt k 5 a5 n) k n = true ∧
      fitN c (addAt k 0 a0 n) (addAt k 1 a1 n) (addAt k 2 a2 n) (addAt k 3 a3 n) (addAt k 4 a4 n) (addAt k 5 a5 n) k 1 = 0 ∧
      leftN c (addAt k 0 a0 n) (addAt k 1 a1 n) (addAt k 2 a2 n) (addAt k 3 a3 n) (addAt k 4 a4 n) (addAt k 5 a5 n) < costN k := by
  have hr := roomN_bd c a0 a1 a2 a3 a4 a5 k hk
  have hm := many_bd hk (chk0 h).1
  obtain ⟨q0, q1⟩ := costN_pos hk
  obtain ⟨m0, m1⟩ := room_mul c a0 a1 a2 a3 a4 a5 k hk
  have hf : fitN c a0 a1 a2 a3 a4 a5 k 4096 = roomN c a0 a1 a2 a3 a4 a5 k := by
    unfold fitN
    rw [if_pos (may_of (by decide) hk h)]
    omega
  have hX := chk_add (d := roomN c a0 a1 a2 a3 a4 a5 k) h hk (by omega) m0
  have hsum := sum_addAt hk a0 a1 a2 a3 a4 a5 (roomN c a0 a1 a2 a3 a4 a5 k)
  have hleft := left_eq hX
  rw [hsum] at hleft
  rw [left_eq h] at m0 m1
  rw [Int.add_mul, Int.one_mul] at m1
  have hlt : leftN c (addAt k 0 a0 (roomN c a0 a1 a2 a3 a4 a5 k)) (addAt k 1 a1 (roomN c a0 a1 a2 a3 a4 a5 k)) (addAt k 2 a2 (roomN c a0 a1 a2 a3 a4 a5 k)) (addAt k 3 a3 (roomN c a0 a1 a2 a3 a4 a5 k)) (addAt k 4 a4 (roomN c a0 a1 a2 a3 a4 a5 k)) (addAt k 5 a5 (roomN c a0 a1 a2 a3 a4 a5 k)) < costN k := by omega
  refine ⟨_, hf, ⟨hr.1, hr.2⟩, ?_, ?_, ?_, ?_, hlt⟩
  · unfold takeB
    rw [may_of hr.1 hk h]
    simp
  · unfold takeB
    rw [may_of (by omega) hk h]
    simp
    omega
  · rw [giveB_iff hX hk hr.1, many_addAt hk]
    simp
    omega
  · have hz : roomN c (addAt k 0 a0 (roomN c a0 a1 a2 a3 a4 a5 k)) (addAt k 1 a1 (roomN c a0 a1 a2 a3 a4 a5 k)) (addAt k 2 a2 (roomN c a0 a1 a2 a3 a4 a5 k)) (addAt k 3 a3 (roomN c a0 a1 a2 a3 a4 a5 k)) (addAt k 4 a4 (roomN c a0 a1 a2 a3 a4 a5 k)) (addAt k 5 a5 (roomN c a0 a1 a2 a3 a4 a5 k)) k = 0 := by
      unfold roomN at hlt ⊢
      exact Int.ediv_eq_zero_of_lt (leftN_bd _ _ _ _ _ _ _).1 hlt
    unfold fitN
    rw [if_pos (may_of (by decide) hk hX), hz]
    decide
theorem load_bd {c a0 a1 a2 a3 a4 a5 : Int} (h : chkN c a0 a1 a2 a3 a4 a5 = 0) : 0 ≤ loadN c a0 a1 a2 a3 a4 a5 ∧ loadN c a0 a1 a2 a3 a4 a5 ≤ 100 := by
  obtain ⟨hs, hc, hq0, hq1⟩ := chk0 h
  unfold loadN
  rw [if_pos h, Int.tdiv_eq_ediv_of_nonneg (by omega)]
  refine ⟨Int.ediv_nonneg (by omega) (by omega), ?_⟩
  have := Int.ediv_le_ediv (show 0 < c by omega) (show sumN a0 a1 a2 a3 a4 a5 * 100 ≤ 100 * c by omega)
  rw [Int.mul_ediv_cancel _ (by omega)] at this
  exact this
end Go.Proofs.Ytkohdfmhigejoaa
