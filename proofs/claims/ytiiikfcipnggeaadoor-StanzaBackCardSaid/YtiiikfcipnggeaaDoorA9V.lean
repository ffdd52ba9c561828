/- Layer 9, the program's: two addresses held together. -/
import Derived.Test.YtiiikfcipnggeaaDoorA9K
import Derived.ChangeKeysEq
namespace Go.Proofs.YtiiikfcipnggeaaDoor
open Go.RowKit
set_option linter.unusedVariables false
set_option linter.unusedSimpArgs false

theorem eqItems_str {P : Program} (w : World) (d : Nat) {e : TypeId} (he : P.plainKey e = true) (hu : P.underlying e = some .string) (c : Nat) (xs ys : Array Value) (i : Nat) (is : List Nat) (x y : ByteArray)
    (hx : xs[i * c]? = some (.string x)) (hy : ys[i * c]? = some (.string y)) :
    (Op.eqItems (d + 1) e c xs ys (i :: is)).run P w = if decide (x = y) = true then (Op.eqItems (d + 1) e c xs ys is).run P w else .ok false w := by
  simp only [Op.eqItems, Sem.run_bind, run_part_plain w he hx, run_part_plain w he hy, run_equalIn_string w d e x y hu, Result.andThen_ok]
  rw [str_beq]
  cases decide (x = y) <;> simp
theorem eql_texts (d : Nat) (n h r n' h' r' : ByteArray) (w : World) :
    (Op.equalIn (d + 2) 97 (.agg #[.string n, .string h, .string r]) (.agg #[.string n', .string h', .string r'])).run Tryd.prog w
      = .ok (decide ((n, h, r) = (n', h', r'))) w := by
  obtain ⟨i, hi, hc⟩ : ∃ i, Tryd.prog.info? 9 = some i ∧ Tryd.prog.cellsOf 9 = 1 := by
    have h1 : (Tryd.prog.info? 9).isSome = true := by kernel_rfl
    obtain ⟨i, hi⟩ := Option.isSome_iff_exists.1 h1
    exact ⟨i, hi, by kernel_rfl⟩
  have he : Tryd.prog.plainKey 9 = true := by kernel_rfl
  rw [show d + 2 = d + 1 + 1 from rfl, run_equalIn_array w (d + 1) _ _ Tryd.underlying97 hi, hc, show List.range 3 = [0, 1, 2] from rfl,
    eqItems_str w d he Tryd.underlying9 1 _ _ 0 _ n n' rfl rfl, eqItems_str w d he Tryd.underlying9 1 _ _ 1 _ h h' rfl rfl, eqItems_str w d he Tryd.underlying9 1 _ _ 2 _ r r' rfl rfl]
  simp only [Op.eqItems, Sem.run_pure]
  by_cases e1 : n = n' <;> by_cases e2 : h = h' <;> by_cases e3 : r = r' <;> simp [e1, e2, e3]
end Go.Proofs.YtiiikfcipnggeaaDoor
