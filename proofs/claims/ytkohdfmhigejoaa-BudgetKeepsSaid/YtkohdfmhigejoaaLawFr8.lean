/- My own small kit: all that lay in a world stays; ways that come to the same. -/
import Derived.Test.YtkohdfmhigejoaaLawKit
import Derived.Test.YtkohdfmhigejoaaLawOpen8
import Derived.Test.YtkohdfmhigejoaaG8W
namespace Go.Proofs.Ytkohdfmhigejoaa
open Go.RowKit
set_option linter.unusedVariables false
set_option linter.unusedSimpArgs false

/-- all that lay in W lies in w as it did -/
def Fr (W w : World) : Prop := Below W.heap.size W w
theorem Fr.refl (W : World) : Fr W W := Below.refl _ _
theorem Fr.draw (W : World) : Fr W W.drew := Below.drew (Below.refl _ _)
theorem Fr.call {W w w1 : World} (h : Fr W w) (hb : Below w.heap.size w w1) : Fr W w1 := Below.trans h (hb.mono (Below.size h))
theorem Fr.fin {W w W' : World} (hB : Below w.heap.size w W) (h : Fr W W') : Below w.heap.size w W' := Below.trans hB (Below.mono h (Below.size hB))
theorem cost_b (k : Int) (w : World) : Calls Try.prog 26 #[.int .i64 k] w fun e w' => e = .returned (.int .i64 (costN k)) ∧ Below w.heap.size w w' := (cost_any k w).mono fun e w' h => ⟨h.1, by rw [h.2]; exact Below.refl _ _⟩
theorem costD_b (k : Int) (w : World) : Calls Try.prog 27 #[.int .i64 k] w fun e w' => e = .returned (.int .i64 (costN k)) ∧ Below w.heap.size w w' := (costD_any k w).mono fun e w' h => ⟨h.1, by rw [h.2]; exact Below.refl _ _⟩
theorem Bx7.fr {W w1 : World} {b : Nat} {c a0 a1 a2 a3 a4 a5 : Int} (h : Bx7 W b c a0 a1 a2 a3 a4 a5) (hb : Fr W w1) : Bx7 w1 b c a0 a1 a2 a3 a4 a5 := h.call hb
end Go.Proofs.Ytkohdfmhigejoaa
