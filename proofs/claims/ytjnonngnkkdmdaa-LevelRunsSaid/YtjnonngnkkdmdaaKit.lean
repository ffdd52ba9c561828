/- My own small kit, over any program: what is below a block's number stays; blocks of three cells; ends of walks. -/
import Derived.Test.YtjnonngnkkdmdaaChecked
import Derived.WalkKit
import Derived.ProofKit
import Derived.OpenShut
import Derived.Lib.Hide
import Derived.LoopTactic
import Derived.Outline
import Derived.Deep.RegionWith
import Derived.OpenVars
import Derived.Deep.QuietTactic
namespace Go.Proofs.Ytjnonngnkkdmdaa
open Go.RowKit
set_option linter.unusedVariables false

theorem below_alloc {B : Nat} {a w : World} (hB : B ≤ w.heap.size) (h : Below B a w) (o : Obj) : Below B a (w.alloc o) := h.alloc hB o
theorem below_setCell {B : Nat} {a w : World} {p : Addr} (hp : B ≤ p.block) (h : Below B a w) (u : Value) : Below B a (w.setCell p u) := h.setCell hp u
theorem below_drewN {B : Nat} {a w : World} (h : Below B a w) (n : Nat) : Below B a (w.drewN n) := ⟨h.os, h.tape, h.output, h.size, h.block⟩
theorem below_call {B : Nat} {a W w1 : World} (hb : Below W.heap.size W w1) (hB : B ≤ W.heap.size) (h : Below B a W) : Below B a w1 := h.trans (hb.mono hB)
theorem bcell {W w1 : World} (hb : Below W.heap.size W w1) : (∀ b o, b < W.heap.size → w1.cell? ⟨b, o, none⟩ = W.cell? ⟨b, o, none⟩) ∧ (∀ b o, b < W.heap.size → w1.frozen? ⟨b, o, none⟩ = W.frozen? ⟨b, o, none⟩) :=
  ⟨fun b o h => hb.cell (p := ⟨b, o, none⟩) h, fun b o h => hb.frozen (p := ⟨b, o, none⟩) h⟩
theorem bcellN {W w1 : World} {n : Nat} (hn : n ≤ W.heap.size) (hb : Below W.heap.size W w1) : (∀ b o, b < n → w1.cell? ⟨b, o, none⟩ = W.cell? ⟨b, o, none⟩) ∧ (∀ b o, b < n → w1.frozen? ⟨b, o, none⟩ = W.frozen? ⟨b, o, none⟩) ∧ n ≤ w1.heap.size :=
  ⟨fun b o h => hb.cell (p := ⟨b, o, none⟩) (Nat.lt_of_lt_of_le h hn), fun b o h => hb.frozen (p := ⟨b, o, none⟩) (Nat.lt_of_lt_of_le h hn), Nat.le_trans hn hb.size⟩
theorem bcellAt {W w1 : World} {b : Nat} (hn : b < W.heap.size) (hb : Below W.heap.size W w1) : (∀ o, w1.cell? ⟨b, o, none⟩ = W.cell? ⟨b, o, none⟩) ∧ (∀ o, w1.frozen? ⟨b, o, none⟩ = W.frozen? ⟨b, o, none⟩) ∧ b < w1.heap.size :=
  ⟨fun o => hb.cell (p := ⟨b, o, none⟩) hn, fun o => hb.frozen (p := ⟨b, o, none⟩) hn, Nat.lt_of_lt_of_le hn hb.size⟩
/-- what stands where something was stored: no premise, so that chains of stores are read at whatever depth -/
@[go_sem high] theorem cell?_setCell_map (w : World) (b o : Nat) (v : Value) : (w.setCell ⟨b, o, none⟩ v).cell? ⟨b, o, none⟩ = (w.cell? ⟨b, o, none⟩).map fun _ => v := by
  cases h : w.cell? ⟨b, o, none⟩ with
  | some u => exact World.cell?_setCell_same _ _ _ h
  | none =>
    unfold World.cell? at h ⊢
    simp only [World.setCell, Array.getElem?_modify, ↓reduceIte]
    cases hh : w.heap[b]? with
    | none => simp
    | some x =>
      cases x with
      | cells c e f =>
        rw [hh] at h
        simp at h ⊢
        have : c.size ≤ o := by simpa using h
        simpa using this
      | _ => simp
theorem str_beq (x y : ByteArray) : (x.toList == y.toList) = decide (x = y) := by
  rw [ByteArray.toList_eq, ByteArray.toList_eq, Bool.eq_iff_iff, beq_iff_eq, decide_eq_true_iff]
  constructor
  · intro h; exact ByteArray.ext (Array.toList_inj.1 h)
  · intro h; rw [h]
theorem ret_bool {a b : Bool} (h : a = b) : Ending.returned (.bool a) = .returned (.bool b) := by rw [h]
theorem ret_int {k : IntKind} {a b : Int} (h : a = b) : Ending.returned (.int k a) = .returned (.int k b) := by rw [h]

/-- a block of three cells, none frozen -/
def Row3 (w : World) (b : Nat) (x y z : Value) : Prop :=
  (w.cell? ⟨b, 0, none⟩ = some x ∧ w.cell? ⟨b, 1, none⟩ = some y ∧ w.cell? ⟨b, 2, none⟩ = some z) ∧ (w.frozen? ⟨b, 0, none⟩ = false ∧ w.frozen? ⟨b, 1, none⟩ = false ∧ w.frozen? ⟨b, 2, none⟩ = false)

theorem Row3.set1 {w : World} {b : Nat} {x y z : Value} (h : Row3 w b x y z) (u : Value) : Row3 (w.setCell ⟨b, 1, none⟩ u) b x u z :=
  ⟨⟨by rw [World.cell?_setCell_other _ _ _ _ (by simp)]; exact h.1.1, World.cell?_setCell_same _ _ _ h.1.2.1, by rw [World.cell?_setCell_other _ _ _ _ (by simp)]; exact h.1.2.2⟩, by simpa using h.2⟩
theorem Row3.set0 {w : World} {b : Nat} {x y z : Value} (h : Row3 w b x y z) (u : Value) : Row3 (w.setCell ⟨b, 0, none⟩ u) b u y z :=
  ⟨⟨World.cell?_setCell_same _ _ _ h.1.1, by rw [World.cell?_setCell_other _ _ _ _ (by simp)]; exact h.1.2.1, by rw [World.cell?_setCell_other _ _ _ _ (by simp)]; exact h.1.2.2⟩, by simpa using h.2⟩
theorem Row3.set2 {w : World} {b : Nat} {x y z : Value} (h : Row3 w b x y z) (u : Value) : Row3 (w.setCell ⟨b, 2, none⟩ u) b x y u :=
  ⟨⟨by rw [World.cell?_setCell_other _ _ _ _ (by simp)]; exact h.1.1, by rw [World.cell?_setCell_other _ _ _ _ (by simp)]; exact h.1.2.1, World.cell?_setCell_same _ _ _ h.1.2.2⟩, by simpa using h.2⟩
theorem Row3.other {w : World} {b : Nat} {x y z : Value} (h : Row3 w b x y z) {p : Addr} (hp : p.block ≠ b) (u : Value) : Row3 (w.setCell p u) b x y z := by
  have hq : ∀ o, p ≠ ⟨b, o, none⟩ := fun o e => hp (by rw [e])
  exact ⟨⟨by rw [World.cell?_setCell_other _ _ _ _ (hq _)]; exact h.1.1, by rw [World.cell?_setCell_other _ _ _ _ (hq _)]; exact h.1.2.1, by rw [World.cell?_setCell_other _ _ _ _ (hq _)]; exact h.1.2.2⟩, by simpa using h.2⟩

theorem Row3.call {W w1 : World} {b : Nat} {x y z : Value} (h : Row3 W b x y z) (hb : Below W.heap.size W w1) (hl : b < W.heap.size) : Row3 w1 b x y z :=
  ⟨⟨(hb.cell (p := ⟨b, 0, none⟩) hl).trans h.1.1, (hb.cell (p := ⟨b, 1, none⟩) hl).trans h.1.2.1, (hb.cell (p := ⟨b, 2, none⟩) hl).trans h.1.2.2⟩,
    (hb.frozen (p := ⟨b, 0, none⟩) hl).trans h.2.1, (hb.frozen (p := ⟨b, 1, none⟩) hl).trans h.2.2.1, (hb.frozen (p := ⟨b, 2, none⟩) hl).trans h.2.2.2⟩
end Go.Proofs.Ytjnonngnkkdmdaa
