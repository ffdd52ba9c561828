/- Layer 8: two rows of six numbers, held together. -/
import Derived.Test.YtkohdfmhigejoaaG8B
import Derived.ChangeKeysEq
namespace Go.Proofs.Ytkohdfmhigejoaa
open Go.RowKit
set_option linter.unusedVariables false
set_option linter.unusedSimpArgs false

theorem eqItems_int {P : Program} (w : World) (d : Nat) {e : TypeId} {k : IntKind} (he : P.plainKey e = true) (hu : P.underlying e = some (.int k)) (c : Nat) (xs ys : Array Value) (i : Nat) (is : List Nat) (x y : Int)
    (hx : xs[i * c]? = some (.int k x)) (hy : ys[i * c]? = some (.int k y)) :
    (Op.eqItems (d + 1) e c xs ys (i :: is)).run P w = if (x == y) = true then (Op.eqItems (d + 1) e c xs ys is).run P w else .ok false w := by
  simp only [Op.eqItems, Sem.run_bind, run_part_plain w he hx, run_part_plain w he hy, run_equalIn_int w d e k k x y hu, Result.andThen_ok]
  cases x == y <;> simp
@[go_sem] theorem eql_many (d : Nat) (a0 a1 a2 a3 a4 a5 b0 b1 b2 b3 b4 b5 : Int) (w : World) :
    (Op.equalIn (d + 2) 22 (.agg #[.int .i64 a0, .int .i64 a1, .int .i64 a2, .int .i64 a3, .int .i64 a4, .int .i64 a5]) (.agg #[.int .i64 b0, .int .i64 b1, .int .i64 b2, .int .i64 b3, .int .i64 b4, .int .i64 b5])).run Try.prog w
      = .ok (a0 == b0 && (a1 == b1 && (a2 == b2 && (a3 == b3 && (a4 == b4 && a5 == b5))))) w := by
  obtain ⟨i, hi, hc⟩ : ∃ i, Try.prog.info? 3 = some i ∧ Try.prog.cellsOf 3 = 1 := by
    have h1 : (Try.prog.info? 3).isSome = true := by kernel_rfl
    obtain ⟨i, hi⟩ := Option.isSome_iff_exists.1 h1
    exact ⟨i, hi, by kernel_rfl⟩
  have he : Try.prog.plainKey 3 = true := by kernel_rfl
  rw [show d + 2 = d + 1 + 1 from rfl, run_equalIn_array w (d + 1) _ _ Try.underlying22 hi, hc, show List.range 6 = [0, 1, 2, 3, 4, 5] from rfl,
    eqItems_int w d he Try.underlying3 1 _ _ 0 _ a0 b0 rfl rfl, eqItems_int w d he Try.underlying3 1 _ _ 1 _ a1 b1 rfl rfl, eqItems_int w d he Try.underlying3 1 _ _ 2 _ a2 b2 rfl rfl,
    eqItems_int w d he Try.underlying3 1 _ _ 3 _ a3 b3 rfl rfl, eqItems_int w d he Try.underlying3 1 _ _ 4 _ a4 b4 rfl rfl, eqItems_int w d he Try.underlying3 1 _ _ 5 _ a5 b5 rfl rfl]
  generalize (a0 == b0) = p0
  generalize (a1 == b1) = p1
  generalize (a2 == b2) = p2
  generalize (a3 == b3) = p3
  generalize (a4 == b4) = p4
  generalize (a5 == b5) = p5
  simp only [Op.eqItems, Sem.run_pure]
  cases p0 <;> cases p1 <;> cases p2 <;> cases p3 <;> cases p4 <;> cases p5 <;> rfl
end Go.Proofs.Ytkohdfmhigejoaa
