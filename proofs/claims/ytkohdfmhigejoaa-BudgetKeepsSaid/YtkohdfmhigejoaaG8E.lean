/- Layer 8: a new state of both; what may be asked for, what there is room for, how many fit: the program's. -/
import Derived.Test.YtkohdfmhigejoaaG8D
namespace Go.Proofs.Ytkohdfmhigejoaa
open Go.RowKit
set_option linter.unusedVariables false
set_option linter.unusedSimpArgs false

def newC (n : Int) : Int := if capB n = true then n else 0
def newE (n : Int) : Int := if capB n = true then 0 else 8
set_option maxHeartbeats 1000000 in
theorem new_any (n : Int) (w : World) : Calls Try.prog 16 #[.int .i64 n] w fun e w' => e = .returned (.tuple #[stV (newC n) 0 0 0 0 0 0, .int .i64 (newE n)]) ∧ Below w.heap.size w w' := by
  have cc := fun W => isCap_any n W
  simp only [stV]
  cases h : capB n with
  | true =>
    rw [h] at cc
    rw [show newC n = n from if_pos h, show newE n = 0 from if_pos h]
    clear h
    go_enter Try.func16, Try.ntmps16
    go_wp2_with fail
    refine (cc _).mono ?_; rintro e w1 ⟨rfl, rfl⟩
    go_wp2
    refine bodyPost_ret (v := .tuple #[stV n 0 0 0 0 0 0, .int .i64 0]) (by simp [results, Try.results16, go_sem]) rfl ⟨rfl, ?_⟩
    (repeat (first | (with_reducible exact Below.refl _ _) | ((with_reducible refine below_alloc ?_ ?_ _); · (first | omega | (simp; done) | (simp; omega))) | ((with_reducible refine below_setCell ?_ ?_ _); · (first | omega | (simp; done) | (simp; omega))) | (with_reducible refine Below.drew ?_) | (with_reducible refine below_drewN ?_ _) | ((with_reducible refine below_call (by assumption) ?_ ?_); · (first | omega | (simp; done) | (simp; omega)))))
  | false =>
    rw [h] at cc
    rw [show newC n = 0 from if_neg (by rw [h]; decide), show newE n = 8 from if_neg (by rw [h]; decide)]
    clear h
    go_enter Try.func16, Try.ntmps16
    go_wp2_with fail
    refine (cc _).mono ?_; rintro e w1 ⟨rfl, rfl⟩
    go_wp2
    refine bodyPost_ret (v := .tuple #[stV 0 0 0 0 0 0 0, .int .i64 8]) (by simp [results, Try.results16, go_sem]) rfl ⟨rfl, ?_⟩
    (repeat (first | (with_reducible exact Below.refl _ _) | ((with_reducible refine below_alloc ?_ ?_ _); · (first | omega | (simp; done) | (simp; omega))) | ((with_reducible refine below_setCell ?_ ?_ _); · (first | omega | (simp; done) | (simp; omega))) | (with_reducible refine Below.drew ?_) | (with_reducible refine below_drewN ?_ _) | ((with_reducible refine below_call (by assumption) ?_ ?_); · (first | omega | (simp; done) | (simp; omega)))))
set_option maxHeartbeats 1000000 in
theorem newD_any (n : Int) (w : World) : Calls Try.prog 17 #[.int .i64 n] w fun e w' => e = .returned (.tuple #[stV (newC n) 0 0 0 0 0 0, .int .i64 (newE n)]) ∧ Below w.heap.size w w' := by
  have cc : ∀ W, Calls Try.prog 30 #[.int .i64 n, .int .i64 1, .int .i64 4096] W fun e w' => e = .returned (.bool (capB n)) ∧ w' = W := fun W => in_any n 1 4096 W
  simp only [stV]
  cases h : capB n with
  | true =>
    rw [h] at cc
    rw [show newC n = n from if_pos h, show newE n = 0 from if_pos h]
    clear h
    go_enter Try.func17, Try.ntmps17
    go_wp2_with fail
    refine (cc _).mono ?_; rintro e w1 ⟨rfl, rfl⟩
    go_wp2
    refine bodyPost_ret (v := .tuple #[stV n 0 0 0 0 0 0, .int .i64 0]) (by simp [results, Try.results17, go_sem]) rfl ⟨rfl, ?_⟩
    (repeat (first | (with_reducible exact Below.refl _ _) | ((with_reducible refine below_alloc ?_ ?_ _); · (first | omega | (simp; done) | (simp; omega))) | ((with_reducible refine below_setCell ?_ ?_ _); · (first | omega | (simp; done) | (simp; omega))) | (with_reducible refine Below.drew ?_) | (with_reducible refine below_drewN ?_ _) | ((with_reducible refine below_call (by assumption) ?_ ?_); · (first | omega | (simp; done) | (simp; omega)))))
  | false =>
    rw [h] at cc
    rw [show newC n = 0 from if_neg (by rw [h]; decide), show newE n = 8 from if_neg (by rw [h]; decide)]
    clear h
    go_enter Try.func17, Try.ntmps17
    go_wp2_with fail
    refine (cc _).mono ?_; rintro e w1 ⟨rfl, rfl⟩
    go_wp2
    refine bodyPost_ret (v := .tuple #[stV 0 0 0 0 0 0 0, .int .i64 8]) (by simp [results, Try.results17, go_sem]) rfl ⟨rfl, ?_⟩
    (repeat (first | (with_reducible exact Below.refl _ _) | ((with_reducible refine below_alloc ?_ ?_ _); · (first | omega | (simp; done) | (simp; omega))) | ((with_reducible refine below_setCell ?_ ?_ _); · (first | omega | (simp; done) | (simp; omega))) | (with_reducible refine Below.drew ?_) | (with_reducible refine below_drewN ?_ _) | ((with_reducible refine below_call (by assumption) ?_ ?_); · (first | omega | (simp; done) | (simp; omega)))))
/-- may n things of a kind be asked for at all? -/
def mayB (c a0 a1 a2 a3 a4 a5 k n : Int) : Bool := decide (0 ≤ n) && (kindB k && decide (chkN c a0 a1 a2 a3 a4 a5 = 0))
set_option maxHeartbeats 1000000 in
theorem may_any (c a0 a1 a2 a3 a4 a5 k n : Int) (w : World) :
    Calls Try.prog 28 #[stV c a0 a1 a2 a3 a4 a5, .int .i64 k, .int .i64 n] w fun e w' => e = .returned (.bool (mayB c a0 a1 a2 a3 a4 a5 k n)) ∧ Below w.heap.size w w' := by
  have cd := fun W => isKind_any k W
  have ck := fun W => check_any c a0 a1 a2 a3 a4 a5 W
  simp only [stV] at *
  by_cases hn : 0 ≤ n
  · cases hk : kindB k with
    | true =>
      have HN : Hid (mayB c a0 a1 a2 a3 a4 a5 k n = decide (chkN c a0 a1 a2 a3 a4 a5 = 0)) := Lib.hid (by unfold mayB; simp [hn, hk])
      rw [hk] at cd
      clear hk
      go_enter Try.func28, Try.ntmps28
      go_wp2_with fail
      refine (cd _).mono ?_; rintro e w1 ⟨rfl, rfl⟩
      go_wp2_with fail
      refine (ck _).mono ?_; rintro e w1 ⟨rfl, hb1⟩
      go_wp2_with fail
      go_ret
      exact ⟨ret_bool (by rw [HN.out]; first | rfl | (rw [Bool.eq_iff_iff]; simp)), by (repeat (first | (with_reducible exact Below.refl _ _) | ((with_reducible refine below_alloc ?_ ?_ _); · (first | omega | (simp; done) | (simp; omega))) | ((with_reducible refine below_setCell ?_ ?_ _); · (first | omega | (simp; done) | (simp; omega))) | (with_reducible refine Below.drew ?_) | (with_reducible refine below_drewN ?_ _) | ((with_reducible refine below_call (by assumption) ?_ ?_); · (first | omega | (simp; done) | (simp; omega)))))⟩
    | false =>
      have HN : Hid (mayB c a0 a1 a2 a3 a4 a5 k n = false) := Lib.hid (by unfold mayB; simp [hn, hk])
      rw [hk] at cd
      clear hk
      go_enter Try.func28, Try.ntmps28
      go_wp2_with fail
      refine (cd _).mono ?_; rintro e w1 ⟨rfl, rfl⟩
      go_wp2_with fail
      go_ret
      exact ⟨ret_bool HN.out.symm, by (repeat (first | (with_reducible exact Below.refl _ _) | ((with_reducible refine below_alloc ?_ ?_ _); · (first | omega | (simp; done) | (simp; omega))) | ((with_reducible refine below_setCell ?_ ?_ _); · (first | omega | (simp; done) | (simp; omega))) | (with_reducible refine Below.drew ?_) | (with_reducible refine below_drewN ?_ _) | ((with_reducible refine below_call (by assumption) ?_ ?_); · (first | omega | (simp; done) | (simp; omega)))))⟩
  · have hn' : n < 0 := by omega
    have HN : Hid (mayB c a0 a1 a2 a3 a4 a5 k n = false) := Lib.hid (by unfold mayB; simp [hn])
    clear hn
    go_enter Try.func28, Try.ntmps28
    go_wp2_with fail
    go_ret
    exact ⟨ret_bool HN.out.symm, by (repeat (first | (with_reducible exact Below.refl _ _) | ((with_reducible refine below_alloc ?_ ?_ _); · (first | omega | (simp; done) | (simp; omega))) | ((with_reducible refine below_setCell ?_ ?_ _); · (first | omega | (simp; done) | (simp; omega))) | (with_reducible refine Below.drew ?_) | (with_reducible refine below_drewN ?_ _) | ((with_reducible refine below_call (by assumption) ?_ ?_); · (first | omega | (simp; done) | (simp; omega)))))⟩
theorem costN_pos {k : Int} (h : kindB k = true) : 1 ≤ costN k ∧ costN k ≤ 8 := by
  rcases costN_at k with (rfl | rfl | rfl | rfl | rfl | rfl) | hn
  iterate 6 · decide
  have := kindB_cost k
  rw [h, costN_none hn] at this
  cases this
theorem leftN_bd (c a0 a1 a2 a3 a4 a5 : Int) : 0 ≤ leftN c a0 a1 a2 a3 a4 a5 ∧ leftN c a0 a1 a2 a3 a4 a5 ≤ 4096 := by
  unfold leftN
  split
  · rename_i h
    obtain ⟨h1, h2, h3, h4⟩ := chk0 h
    omega
  · omega
/-- how many more there is room for -/
def roomN (c a0 a1 a2 a3 a4 a5 k : Int) : Int := leftN c a0 a1 a2 a3 a4 a5 / costN k
theorem roomN_bd (c a0 a1 a2 a3 a4 a5 k : Int) (h : kindB k = true) : 0 ≤ roomN c a0 a1 a2 a3 a4 a5 k ∧ roomN c a0 a1 a2 a3 a4 a5 k ≤ 4096 := by
  obtain ⟨l0, l1⟩ := leftN_bd c a0 a1 a2 a3 a4 a5
  obtain ⟨c0, c1⟩ := costN_pos h
  unfold roomN
  have e1 := Int.ediv_nonneg l0 (show 0 ≤ costN k by omega)
  have e2 := Int.ediv_le_self (costN k) l0
  omega
set_option maxHeartbeats 1000000 in
theorem room_any (c a0 a1 a2 a3 a4 a5 k : Int) (w : World) (h : kindB k = true) :
    Calls Try.prog 29 #[stV c a0 a1 a2 a3 a4 a5, .int .i64 k] w fun e w' => e = .returned (.int .i64 (roomN c a0 a1 a2 a3 a4 a5 k)) ∧ Below w.heap.size w w' := by
  obtain ⟨l0, l1⟩ := leftN_bd c a0 a1 a2 a3 a4 a5
  obtain ⟨q0, q1⟩ := costN_pos h
  obtain ⟨r0, r1⟩ := roomN_bd c a0 a1 a2 a3 a4 a5 k h
  have cl := fun W => left_any c a0 a1 a2 a3 a4 a5 W
  have cd := fun W => cost_any k W
  have hd : Int.tdiv (leftN c a0 a1 a2 a3 a4 a5) (costN k) = roomN c a0 a1 a2 a3 a4 a5 k := by
    rw [Int.tdiv_eq_ediv_of_nonneg l0]; rfl
  have hw : IntKind.i64.wrap (roomN c a0 a1 a2 a3 a4 a5 k) = roomN c a0 a1 a2 a3 a4 a5 k := IntWalk.i64_in _ (by omega)
  have hc0 : ¬ costN k = 0 := by omega
  simp only [stV] at *
  clear h
  go_enter Try.func29, Try.ntmps29
  go_wp2_with fail
  refine (cl _).mono ?_; rintro e w1 ⟨rfl, hb1⟩
  go_wp2_with fail
  refine (cd _).mono ?_; rintro e w2 ⟨rfl, rfl⟩
  go_wp2_with fail
  go_ret
  exact ⟨ret_int (by first | rfl | assumption | simp [*]), by (repeat (first | (with_reducible exact Below.refl _ _) | ((with_reducible refine below_alloc ?_ ?_ _); · (first | omega | (simp; done) | (simp; omega))) | ((with_reducible refine below_setCell ?_ ?_ _); · (first | omega | (simp; done) | (simp; omega))) | (with_reducible refine Below.drew ?_) | (with_reducible refine below_drewN ?_ _) | ((with_reducible refine below_call (by assumption) ?_ ?_); · (first | omega | (simp; done) | (simp; omega)))))⟩
/-- how many of n fit -/
def fitN (c a0 a1 a2 a3 a4 a5 k n : Int) : Int := if mayB c a0 a1 a2 a3 a4 a5 k n = true then min n (roomN c a0 a1 a2 a3 a4 a5 k) else 0
set_option maxHeartbeats 1000000 in
theorem fits_any (c a0 a1 a2 a3 a4 a5 k n : Int) (w : World) :
    Calls Try.prog 13 #[stV c a0 a1 a2 a3 a4 a5, .int .i64 k, .int .i64 n] w fun e w' => e = .returned (.int .i64 (fitN c a0 a1 a2 a3 a4 a5 k n)) ∧ Below w.heap.size w w' := by
  have cm := fun W => may_any c a0 a1 a2 a3 a4 a5 k n W
  simp only [stV] at *
  cases h : mayB c a0 a1 a2 a3 a4 a5 k n with
  | true =>
    have HN : Hid (fitN c a0 a1 a2 a3 a4 a5 k n = min n (roomN c a0 a1 a2 a3 a4 a5 k)) := Lib.hid (if_pos h)
    rw [h] at cm
    have hk : kindB k = true := by
      unfold mayB at h
      simp only [Bool.and_eq_true] at h
      exact h.2.1
    have cr := Lib.hid (fun W => room_any c a0 a1 a2 a3 a4 a5 k W hk)
    clear h hk
    go_enter Try.func13, Try.ntmps13
    go_wp2_with fail
    refine (cm _).mono ?_; rintro e w1 ⟨rfl, hb1⟩
    obtain ⟨hk1, hf1, hz1⟩ := bcellN (n := w.heap.size + 1) (by (try simp only [World.size_drew, World.size_alloc, World.size_setCell]); omega) hb1; have hz1_0 : w.heap.size < w1.heap.size := (by omega)
    go_wp2_with fail
    refine (cr.out _).mono ?_; rintro e w2 ⟨rfl, hb2⟩
    go_wp2_with fail
    all_goals (go_ret; exact ⟨ret_int (by rw [HN.out]; omega), by (repeat (first | (with_reducible exact Below.refl _ _) | ((with_reducible refine below_alloc ?_ ?_ _); · (first | omega | (simp; done) | (simp; omega))) | ((with_reducible refine below_setCell ?_ ?_ _); · (first | omega | (simp; done) | (simp; omega))) | (with_reducible refine Below.drew ?_) | (with_reducible refine below_drewN ?_ _) | ((with_reducible refine below_call (by assumption) ?_ ?_); · (first | omega | (simp; done) | (simp; omega)))))⟩)
  | false =>
    have HN : Hid (fitN c a0 a1 a2 a3 a4 a5 k n = 0) := Lib.hid (if_neg (by rw [h]; decide))
    rw [h] at cm
    clear h
    go_enter Try.func13, Try.ntmps13
    go_wp2_with fail
    refine (cm _).mono ?_; rintro e w1 ⟨rfl, hb1⟩
    go_wp2_with fail
    go_ret
    exact ⟨ret_int HN.out.symm, by (repeat (first | (with_reducible exact Below.refl _ _) | ((with_reducible refine below_alloc ?_ ?_ _); · (first | omega | (simp; done) | (simp; omega))) | ((with_reducible refine below_setCell ?_ ?_ _); · (first | omega | (simp; done) | (simp; omega))) | (with_reducible refine Below.drew ?_) | (with_reducible refine below_drewN ?_ _) | ((with_reducible refine below_call (by assumption) ?_ ?_); · (first | omega | (simp; done) | (simp; omega)))))⟩
end Go.Proofs.Ytkohdfmhigejoaa
