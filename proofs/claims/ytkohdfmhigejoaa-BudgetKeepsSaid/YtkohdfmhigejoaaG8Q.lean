/- Layer 8: a row of six numbers in memory, one of them set; the sum that is told number by number. -/
import Derived.Test.YtkohdfmhigejoaaG8P
namespace Go.Proofs.Ytkohdfmhigejoaa
open Go.RowKit
set_option linter.unusedVariables false
set_option linter.unusedSimpArgs false

/-- block b holds these six numbers -/
def Mb (w : World) (b : Nat) (a0 a1 a2 a3 a4 a5 : Int) : Prop :=
  w.cell? ⟨b, 0, none⟩ = some (.int .i64 a0) ∧ w.cell? ⟨b, 1, none⟩ = some (.int .i64 a1) ∧ w.cell? ⟨b, 2, none⟩ = some (.int .i64 a2) ∧ w.cell? ⟨b, 3, none⟩ = some (.int .i64 a3) ∧ w.cell? ⟨b, 4, none⟩ = some (.int .i64 a4) ∧ w.cell? ⟨b, 5, none⟩ = some (.int .i64 a5)
theorem Mb.lt {w : World} {b : Nat} {a0 a1 a2 a3 a4 a5 : Int} (h : Mb w b a0 a1 a2 a3 a4 a5) : b < w.heap.size := World.block_lt_of_cell? _ _ h.1
theorem Mb.call {W w1 : World} {b : Nat} {a0 a1 a2 a3 a4 a5 : Int} (h : Mb W b a0 a1 a2 a3 a4 a5) (hb : Below W.heap.size W w1) : Mb w1 b a0 a1 a2 a3 a4 a5 := by
  obtain ⟨h0, h1, h2, h3, h4, h5⟩ := h
  have hl : b < W.heap.size := World.block_lt_of_cell? _ _ h0
  have k := fun o => hb.cell (p := ⟨b, o, none⟩) hl
  exact ⟨(k 0).trans h0, (k 1).trans h1, (k 2).trans h2, (k 3).trans h3, (k 4).trans h4, (k 5).trans h5⟩
theorem Mb.put {w : World} {b b' : Nat} {a0 a1 a2 a3 a4 a5 : Int} (h : Mb w b a0 a1 a2 a3 a4 a5) (hne : b' ≠ b) (c x0 x1 x2 x3 x4 x5 : Int) : Mb (put7 w b' c x0 x1 x2 x3 x4 x5) b a0 a1 a2 a3 a4 a5 := by
  obtain ⟨h0, h1, h2, h3, h4, h5⟩ := h
  exact ⟨cell_put h0 hne _ _ _ _ _ _ _, cell_put h1 hne _ _ _ _ _ _ _, cell_put h2 hne _ _ _ _ _ _ _, cell_put h3 hne _ _ _ _ _ _ _, cell_put h4 hne _ _ _ _ _ _ _, cell_put h5 hne _ _ _ _ _ _ _⟩
theorem Mb.at {w : World} {b : Nat} {a0 a1 a2 a3 a4 a5 : Int} (h : Mb w b a0 a1 a2 a3 a4 a5) {k : Nat} (hk : k < 6) : w.cell? ⟨b, k, none⟩ = some (.int .i64 (manyAt k a0 a1 a2 a3 a4 a5)) := by
  obtain ⟨h0, h1, h2, h3, h4, h5⟩ := h
  rcases (show k = 0 ∨ k = 1 ∨ k = 2 ∨ k = 3 ∨ k = 4 ∨ k = 5 by omega) with rfl | rfl | rfl | rfl | rfl | rfl <;> assumption
theorem Mb.set {w : World} {b : Nat} {a0 a1 a2 a3 a4 a5 : Int} (h : Mb w b a0 a1 a2 a3 a4 a5) {k : Nat} (hk : k < 6) (d : Int) :
    Mb (w.setCell ⟨b, k, none⟩ (.int .i64 (manyAt k a0 a1 a2 a3 a4 a5 + d))) b (addAt k 0 a0 d) (addAt k 1 a1 d) (addAt k 2 a2 d) (addAt k 3 a3 d) (addAt k 4 a4 d) (addAt k 5 a5 d) := by
  obtain ⟨h0, h1, h2, h3, h4, h5⟩ := h
  rcases (show k = 0 ∨ k = 1 ∨ k = 2 ∨ k = 3 ∨ k = 4 ∨ k = 5 by omega) with rfl | rfl | rfl | rfl | rfl | rfl <;>
    simp [Mb, manyAt, addAt, go_sem, h0, h1, h2, h3, h4, h5]
/-- what the first k kinds cost -/
def sumTo (a0 a1 a2 a3 a4 a5 : Int) : Nat → Int
  | 0 => 0
  | k + 1 => sumTo a0 a1 a2 a3 a4 a5 k + manyAt k a0 a1 a2 a3 a4 a5 * costN k
theorem sumTo_six (a0 a1 a2 a3 a4 a5 : Int) : sumTo a0 a1 a2 a3 a4 a5 6 = sumN a0 a1 a2 a3 a4 a5 := by
  simp [sumTo, manyAt, costN, sumN]
theorem mul_bd {x q : Int} (x0 : 0 ≤ x) (x1 : x ≤ 4096) (q0 : 0 ≤ q) (q1 : q ≤ 8) : 0 ≤ x * q ∧ x * q ≤ 32768 := by
  have h : q = 0 ∨ q = 1 ∨ q = 2 ∨ q = 3 ∨ q = 4 ∨ q = 5 ∨ q = 6 ∨ q = 7 ∨ q = 8 := by omega
  rcases h with rfl | rfl | rfl | rfl | rfl | rfl | rfl | rfl | rfl <;> omega
theorem kind_nat {k : Nat} (hk : k < 6) : kindB (k : Int) = true := inB_iff.2 (by omega)
theorem step_bd {a0 a1 a2 a3 a4 a5 : Int} (h : Smal 4096 a0 a1 a2 a3 a4 a5) {k : Nat} (hk : k < 6) : 0 ≤ manyAt k a0 a1 a2 a3 a4 a5 * costN k ∧ manyAt k a0 a1 a2 a3 a4 a5 * costN k ≤ 32768 := by
  have h1 := many_bd (kind_nat hk) h
  have h2 := costN_pos (kind_nat hk)
  exact mul_bd h1.1 h1.2 (by omega) h2.2
theorem sumTo_bd {a0 a1 a2 a3 a4 a5 : Int} (h : Smal 4096 a0 a1 a2 a3 a4 a5) : ∀ {k : Nat}, k ≤ 6 → 0 ≤ sumTo a0 a1 a2 a3 a4 a5 k ∧ sumTo a0 a1 a2 a3 a4 a5 k ≤ 32768 * k
  | 0, _ => by simp [sumTo]
  | k + 1, hk => by
    have h1 := sumTo_bd h (k := k) (by omega)
    have h2 := step_bd h (k := k) (by omega)
    unfold sumTo
    omega
end Go.Proofs.Ytkohdfmhigejoaa
