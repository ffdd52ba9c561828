/- My own small kit: a text that is empty; a world under a name; what is told of blocks behind a call. -/
import Derived.Test.YtjnonngnkkdmdaaKit
namespace Go.Proofs.Ytjnonngnkkdmdaa
open Go.RowKit
set_option linter.unusedVariables false

theorem emp_iff (s : ByteArray) : s.toList.isEmpty = decide (s.size = 0) := by
  rw [ByteArray.toList_eq, show s.size = s.data.toList.length from by simp]
  cases s.data.toList <;> simp
/-- a world under a name, with what is known of it -/
theorem gen_world {P : Program} {C : Code} {Q : Exit → Act → World → Prop} {a : Act} {W : World} (F : World → Prop) (hF : F W) (h : ∀ wt, F wt → Code.wp P C Q a wt) : Code.wp P C Q a W := h W hF
theorem told_lt {G : Prop} {a b : Nat} (h : a < b) (k : a < b → a ≠ b → b ≠ a → G) : G := k h (Nat.ne_of_lt h) (Nat.ne_of_gt h)
theorem told_cells {G : Prop} {W w1 : World} {n : Nat} (hb : Below W.heap.size W w1) (hn : n ≤ W.heap.size) (k : (∀ b o, b < n → w1.cell? ⟨b, o, none⟩ = W.cell? ⟨b, o, none⟩) → (∀ b o, b < n → w1.frozen? ⟨b, o, none⟩ = W.frozen? ⟨b, o, none⟩) → n ≤ w1.heap.size → G) : G :=
  have h := bcellN hn hb
  k h.1 h.2.1 h.2.2
end Go.Proofs.Ytjnonngnkkdmdaa
