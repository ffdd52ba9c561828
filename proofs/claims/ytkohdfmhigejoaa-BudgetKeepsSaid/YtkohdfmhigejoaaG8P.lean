/- Layer 8: a state that is written over; what a state answers that as many are taken of as fit. -/
import Derived.Test.YtkohdfmhigejoaaLawFr8
import Derived.Test.YtkohdfmhigejoaaG8M
namespace Go.Proofs.Ytkohdfmhigejoaa
open Go.RowKit
set_option linter.unusedVariables false
set_option linter.unusedSimpArgs false

theorem mod_nat (x : Int) (h : 0 ≤ x) (n : Nat) (hn : 0 < n) : ∃ y : Nat, Int.tmod x n = y ∧ x % n = y ∧ y < n := by
  rw [Int.tmod_eq_emod_of_nonneg h]
  have h1 := Int.emod_nonneg x (show (n : Int) ≠ 0 by omega)
  have h2 := Int.emod_lt_of_pos x (show (0 : Int) < n by omega)
  exact ⟨(x % n).toNat, by omega, by omega, by omega⟩
theorem seven_fz {w : World} {b : Nat} (h : Fz w b) : w.frozen? ⟨b, 0, none⟩ = false ∧ w.frozen? ⟨b, 1, none⟩ = false ∧ w.frozen? ⟨b, 2, none⟩ = false ∧ w.frozen? ⟨b, 3, none⟩ = false ∧ w.frozen? ⟨b, 4, none⟩ = false ∧ w.frozen? ⟨b, 5, none⟩ = false ∧ w.frozen? ⟨b, 6, none⟩ = false := ⟨h _, h _, h _, h _, h _, h _, h _⟩
/-- a state's seven cells, written over -/
abbrev put7 (w : World) (b : Nat) (c a0 a1 a2 a3 a4 a5 : Int) : World :=
  ((((((w.setCell ⟨b, 0, none⟩ (.int .i64 c)).setCell ⟨b, 1, none⟩ (.int .i64 a0)).setCell ⟨b, 2, none⟩ (.int .i64 a1)).setCell ⟨b, 3, none⟩ (.int .i64 a2)).setCell ⟨b, 4, none⟩ (.int .i64 a3)).setCell ⟨b, 5, none⟩ (.int .i64 a4)).setCell ⟨b, 6, none⟩ (.int .i64 a5)
theorem Bx7.put {w : World} {b : Nat} {d b0 b1 b2 b3 b4 b5 : Int} (h : Bx7 w b d b0 b1 b2 b3 b4 b5) (c a0 a1 a2 a3 a4 a5 : Int) : Bx7 (put7 w b c a0 a1 a2 a3 a4 a5) b c a0 a1 a2 a3 a4 a5 := by
  obtain ⟨h0, h1, h2, h3, h4, h5, h6⟩ := h
  unfold Bx7 put7
  simp [go_sem, h0, h1, h2, h3, h4, h5, h6]
theorem Fz.put {w : World} {b : Nat} (h : Fz w b) (b' : Nat) (c a0 a1 a2 a3 a4 a5 : Int) : Fz (put7 w b' c a0 a1 a2 a3 a4 a5) b := by
  intro o
  have := h o
  unfold put7
  simpa using this
theorem cell_put {w : World} {b o b' : Nat} {v : Value} (h : w.cell? ⟨b, o, none⟩ = some v) (hne : b' ≠ b) (c a0 a1 a2 a3 a4 a5 : Int) : (put7 w b' c a0 a1 a2 a3 a4 a5).cell? ⟨b, o, none⟩ = some v := by
  have hq : ∀ (w : World) (o' : Nat) (u : Value), (w.setCell ⟨b', o', none⟩ u).cell? ⟨b, o, none⟩ = w.cell? ⟨b, o, none⟩ := fun w o' u => World.cell?_setCell_far w _ _ u hne
  unfold put7
  rw [hq, hq, hq, hq, hq, hq, hq]
  exact h
theorem below_put {B : Nat} {a w : World} {b : Nat} (hb : B ≤ b) (h : Below B a w) (c a0 a1 a2 a3 a4 a5 : Int) : Below B a (put7 w b c a0 a1 a2 a3 a4 a5) := by
  unfold put7
  exact below_setCell hb (below_setCell hb (below_setCell hb (below_setCell hb (below_setCell hb (below_setCell hb (below_setCell hb h _) _) _) _) _) _) _
/-- what a state answers that as many are taken of as fit -/
theorem back_calls {c a0 a1 a2 a3 a4 a5 k : Int} (h : chkN c a0 a1 a2 a3 a4 a5 = 0) (hk : kindB k = true) :
    ∃ n x0 x1 x2 x3 x4 x5 L q : Int, (0 ≤ n ∧ n ≤ 4096) ∧ L < q ∧
      (∀ W, Calls Try.prog 13 #[stV c a0 a1 a2 a3 a4 a5, .int .i64 k, .int .i64 4096] W fun e w' => e = .returned (.int .i64 n) ∧ Below W.heap.size W w') ∧
      (∀ W, Calls Try.prog 7 #[stV c a0 a1 a2 a3 a4 a5, .int .i64 k, .int .i64 n] W fun e w' => e = .returned (.tuple #[stV c x0 x1 x2 x3 x4 x5, .bool true]) ∧ Below W.heap.size W w') ∧
      (∀ W, Calls Try.prog 7 #[stV c a0 a1 a2 a3 a4 a5, .int .i64 k, .int .i64 (n + 1)] W fun e w' => e = .returned (.tuple #[stV c a0 a1 a2 a3 a4 a5, .bool false]) ∧ Below W.heap.size W w') ∧
      (∀ W, Calls Try.prog 9 #[stV c x0 x1 x2 x3 x4 x5, .int .i64 k, .int .i64 n] W fun e w' => e = .returned (.tuple #[stV c a0 a1 a2 a3 a4 a5, .bool true]) ∧ Below W.heap.size W w') ∧
      (∀ W, Calls Try.prog 13 #[stV c x0 x1 x2 x3 x4 x5, .int .i64 k, .int .i64 1] W fun e w' => e = .returned (.int .i64 0) ∧ Below W.heap.size W w') ∧
      (∀ W, Calls Try.prog 22 #[stV c x0 x1 x2 x3 x4 x5] W fun e w' => e = .returned (.int .i64 L) ∧ Below W.heap.size W w') ∧
      (∀ W, Calls Try.prog 26 #[.int .i64 k] W fun e w' => e = .returned (.int .i64 q) ∧ Below W.heap.size W w') := by
  obtain ⟨n, f1, hn, f2, f3, f4, f5, f6⟩ := back_facts h hk
  have e1 : takeD c a0 a1 a2 a3 a4 a5 k n = n := if_pos f2
  have e2 : takeD c a0 a1 a2 a3 a4 a5 k (n + 1) = 0 := if_neg (by rw [f3]; decide)
  have e3 : giveD c (addAt k 0 a0 n) (addAt k 1 a1 n) (addAt k 2 a2 n) (addAt k 3 a3 n) (addAt k 4 a4 n) (addAt k 5 a5 n) k n = -n := if_pos f4
  refine ⟨n, _, _, _, _, _, _, _, _, hn, f6, fun W => ?_, fun W => ?_, fun W => ?_, fun W => ?_, fun W => ?_, fun W => left_any _ _ _ _ _ _ _ W, fun W => cost_b k W⟩
  · have := fits_any c a0 a1 a2 a3 a4 a5 k 4096 W
    rw [f1] at this
    exact this
  · have := take_any c a0 a1 a2 a3 a4 a5 k n W
    rw [f2, e1] at this
    exact this
  · have := take_any c a0 a1 a2 a3 a4 a5 k (n + 1) W
    rw [f3, e2, addV_none] at this
    exact this
  · have := give_any c (addAt k 0 a0 n) (addAt k 1 a1 n) (addAt k 2 a2 n) (addAt k 3 a3 n) (addAt k 4 a4 n) (addAt k 5 a5 n) k n W
    rw [f4, e3] at this
    unfold addV at this
    rw [addAt_back, addAt_back, addAt_back, addAt_back, addAt_back, addAt_back] at this
    exact this
  · have := fits_any c (addAt k 0 a0 n) (addAt k 1 a1 n) (addAt k 2 a2 n) (addAt k 3 a3 n) (addAt k 4 a4 n) (addAt k 5 a5 n) k 1 W
    rw [f5] at this
    exact this
end Go.Proofs.Ytkohdfmhigejoaa
