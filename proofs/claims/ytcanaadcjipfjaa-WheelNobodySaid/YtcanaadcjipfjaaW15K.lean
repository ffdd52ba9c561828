/- Layer 15: what a call leaves as it was: all that lay, but some blocks. -/
import Derived.Test.YtcanaadcjipfjaaW15F
namespace Go.Proofs.Ytcanaadcjipfjaa
open Go.RowKit
set_option linter.unusedVariables false
set_option linter.unusedSimpArgs false

/-- all that lay in w lies in w' as it did, but for the blocks of C -/
def ButC (C : Nat → Prop) (w w' : World) : Prop := Below 0 w w' ∧ ∀ q, q < w.heap.size → ¬ C q → w'.heap[q]? = w.heap[q]?
theorem ButC.refl (C : Nat → Prop) (w : World) : ButC C w w := ⟨Below.refl _ _, fun _ _ _ => rfl⟩
theorem ButC.size {C : Nat → Prop} {w w' : World} (H : ButC C w w') : w.heap.size ≤ w'.heap.size := H.1.size
theorem ButC.trans {C C1 : Nat → Prop} {w w1 w2 : World} (h1 : ButC C w w1) (hC : ∀ b, C1 b → C b ∨ w.heap.size ≤ b) (h2 : ButC C1 w1 w2) : ButC C w w2 :=
  ⟨h1.1.trans h2.1, fun q hq e => (h2.2 q (Nat.lt_of_lt_of_le hq h1.size) (fun h => by rcases hC q h with h | h; exact e h; omega)).trans (h1.2 q hq e)⟩
theorem ButC.below {w w' : World} (C : Nat → Prop) (H : Below w.heap.size w w') : ButC C w w' := ⟨H.mono (Nat.zero_le _), fun q hq _ => H.block q hq⟩
theorem ButC.call {C : Nat → Prop} {w W W' : World} (H : ButC C w W) (hb : Below W.heap.size W W') : ButC C w W' := H.trans (fun b h => .inl h) (ButC.below C hb)
theorem ButC.to {C : Nat → Prop} {w w' : World} {B : Nat} (H : ButC C w w') (hC : ∀ b, C b → B ≤ b) (hB : B ≤ w.heap.size) : Below B w w' :=
  ⟨H.1.os, H.1.tape, H.1.output, H.1.size, fun q hq => H.2 q (by omega) (fun h => by have := hC q h; omega)⟩
theorem ButC.cell {C : Nat → Prop} {w w' : World} (H : ButC C w w') {b o : Nat} {v : Value} (hv : w.cell? ⟨b, o, none⟩ = some v) (e : ¬ C b) : w'.cell? ⟨b, o, none⟩ = some v :=
  (World.cell?_of_block (w := w) (a := ⟨b, o, none⟩) (H.2 b (World.block_lt_of_cell? _ _ hv) e)).trans hv
theorem ButC.frozen {C : Nat → Prop} {w w' : World} (H : ButC C w w') {b o : Nat} (hl : b < w.heap.size) (e : ¬ C b) : w'.frozen? ⟨b, o, none⟩ = w.frozen? ⟨b, o, none⟩ :=
  World.frozen?_of_block (w := w) (a := ⟨b, o, none⟩) (H.2 b hl e)
abbrev ptrW (g : Nat) : Value := .pointer (some ⟨g, 0, none⟩)
/-- a number of 64 bits -/
abbrev I64 (n : Int) : Prop := -9223372036854775808 ≤ n ∧ n ≤ 9223372036854775807
/-- a row lies in none of these blocks -/
def FarC (C : Nat → Prop) (v : Value) : Prop := ∀ b, v.ownBlock = some b → ¬ C b
theorem row_but {te : TypeId} {z k : Nat} {v : Value} {xs : List Value} {B : Nat} {C : Nat → Prop} {w w' : World} (h : w.ownsRow B te z v k xs) (hC : FarC C v) (hb : ButC C w w') : w'.ownsRow B te z v k xs := by
  obtain ⟨h1, h2⟩ := h
  refine ⟨h1, ?_⟩
  rcases h2 with h2 | ⟨g, cap, cur, hv, hB, hg, r⟩
  · exact .inl h2
  · exact .inr ⟨g, cap, cur, hv, hB, (hb.2 g (Array.getElem?_eq_some_iff.1 hg).1 (hC g (by rw [hv]; rfl))).trans hg, r⟩
theorem far_new {te : TypeId} {z k : Nat} {v : Value} {xs : List Value} {B : Nat} {C : Nat → Prop} {w : World} (h : w.ownsRow B te z v k xs) (hC : ∀ b, C b → b < B) : FarC C v := fun b hb hc => by
  rcases h.2 with ⟨hv, _⟩ | ⟨g, cap, cur, hv, hB, _⟩
  · rw [hv] at hb
    cases hb
  · rw [hv] at hb
    obtain rfl : g = b := by cases hb; rfl
    have := hC _ hc
    omega
theorem far_step {te : TypeId} {z k : Nat} {v : Value} {xs : List Value} {B : Nat} {C C' : Nat → Prop} {w : World} (h : w.ownsRow B te z v k xs) (hC : FarC C v) (h' : ∀ b, C' b → C b ∨ w.heap.size ≤ b) : FarC C' v := fun b hb hc => by
  rcases h' b hc with q | q
  · exact hC b hb q
  · rcases h.2 with ⟨hv, _⟩ | ⟨g, cap, cur, hv, hB, hg, _⟩
    · rw [hv] at hb
      cases hb
    · rw [hv] at hb
      obtain rfl : g = b := by cases hb; rfl
      have := (Array.getElem?_eq_some_iff.1 hg).1
      omega
end Go.Proofs.Ytcanaadcjipfjaa
