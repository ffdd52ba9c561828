/- My own small kit: what a range over a function keeps. -/
import Derived.Test.YtbaclfpkaobggaaKitS
import Derived.RangeFuncNested
import Derived.RangeFuncBound
import Derived.RangeFuncCalls
import Derived.RangeFuncLeaves
import Derived.RangeFuncBox
import Derived.Shelf.Abstract
import Derived.Shelf.RegionOpen
import Derived.OwnWalkIn
import Derived.TacticsInMore
import Derived.LoopNIn
import Derived.LoopIn
import Derived.Maps.AppendAt
namespace Go.Proofs.Ytbaclfpkaobggaa
open Go.RowKit Go.Shelf
set_option linter.unusedVariables false
set_option linter.unusedSimpArgs false
attribute [local go_sem] Oper.semAt_some

/-- what a round keeps: the text's box, and what lay when the call began -/
def Kp (Bn n₀ : Nat) (W W' : World) : Prop := W'.heap[Bn]? = W.heap[Bn]? ∧ Below n₀ W W'
theorem Kp.refl (Bn n₀ : Nat) (W : World) : Kp Bn n₀ W W := ⟨rfl, Below.refl _ _⟩
theorem kp_t {Bn n₀ : Nat} {A B C : World} (h : Kp Bn n₀ A B) (k : Kp Bn n₀ B C) : Kp Bn n₀ A C := ⟨k.1.trans h.1, h.2.trans k.2⟩
theorem kp_b {Bn n₀ : Nat} {w : World} (hB : Bn < w.heap.size) (hn : n₀ ≤ w.heap.size) (W : World) (l : Nat) (o o' : Obj) (hl : w.heap.size ≤ l) (h : W.heap[l]? = some o) (hc : o.isCells = false) (hw : o.isWalk = false) : Kp Bn n₀ W (W.putObj l o') :=
  ⟨World.putObj_heap_other (by omega), belowK_b hn W l o o' hl h hc hw⟩
theorem grown_of_below {W W' : World} (h : Below W.heap.size W W') : W.grownBy W' none := ⟨h.os, h.tape, h.output, h.size, fun k hk _ => h.block k hk⟩
theorem kp_call {Bn n₀ : Nat} {W W' : World} (h : Below W.heap.size W W') (hB : Bn < W.heap.size) (hn : n₀ ≤ W.heap.size) : Kp Bn n₀ W W' := ⟨h.block Bn hB, h.mono hn⟩
theorem kp_set {Bn n₀ : Nat} {W : World} {p : Addr} (hp : p.block ≠ Bn) (hn : n₀ ≤ p.block) (v : Value) : Kp Bn n₀ W (W.setCell p v) :=
  ⟨by simp [World.setCell, Array.getElem?_modify, hp], (Below.refl _ _).setCell hn _⟩
theorem cell_of_box {W : World} {B : Nat} {v : Value} {t : TypeId} (h : W.heap[B]? = some (.cells #[v] t (0, 0))) : W.cell? ⟨B, 0, none⟩ = some v ∧ W.frozen? ⟨B, 0, none⟩ = false := by
  constructor <;> simp [World.cell?, World.frozen?, h]
theorem cell_new (W : World) (v : Value) (t : TypeId) : (W.alloc (.cells #[v] t)).cell? ⟨W.heap.size, 0, none⟩ = some v ∧ (W.alloc (.cells #[v] t)).frozen? ⟨W.heap.size, 0, none⟩ = false :=
  cell_of_box (World.alloc_heap_new W _)
theorem cell_alloc {W : World} {a : Addr} {v : Value} (o : Obj) (h : W.cell? a = some v) : (W.alloc o).cell? a = some v := cell_kept h (World.grownBy_alloc W o none) (fun r e => by cases e)
theorem frozen_alloc {W : World} {a : Addr} {v : Value} (o : Obj) (h : W.cell? a = some v) (hf : W.frozen? a = false) : (W.alloc o).frozen? a = false := (frozen_kept h (World.grownBy_alloc W o none) (fun r e => by cases e)).trans hf
theorem boxed_keep {A B : World} {row : Option Nat} {b : Nat} {t : TypeId} {v : Value} (h : Boxed A b t v) (hg : A.grownBy B row) (hr : ∀ r, row = some r → ∃ o : Obj, A.heap[r]? = some o ∧ o.isCells = false) : Boxed B b t v :=
  h.kept hg (fun e => by obtain ⟨o, ho, hc⟩ := hr b e.symm; rw [show A.heap[b]? = _ from h] at ho; cases ho; cases hc)
theorem boxed_other {W : World} {b : Nat} {t : TypeId} {v : Value} (h : Boxed W b t v) {p : Addr} (hp : p.block ≠ b) (u : Value) : Boxed (W.setCell p u) b t v := by
  show (W.setCell p u).heap[b]? = _
  rw [show (W.setCell p u).heap[b]? = W.heap[b]? from by simp [World.setCell, Array.getElem?_modify, hp]]; exact h
theorem boxed_put {W : World} {b D : Nat} {t : TypeId} {v : Value} (h : Boxed W b t v) (hD : b ≠ D) (o : Obj) : Boxed (W.putObj D o) b t v := by
  show (W.putObj D o).heap[b]? = _
  rw [World.putObj_heap_other hD]; exact h

/-- each is a character -/
theorem boxed_app {W w1 : World} {n₀ b B : Nat} {t e : TypeId} {size k : Nat} {u v v' : Value} {xs : List Value} {tmp : Obj} (h : Boxed W b t u) (hte : t ≠ e) (hrow : W.ownsRow n₀ e size v k xs)
    (hgrow : (W.alloc tmp).grownBy w1 v.ownBlock) (hb : B ≠ b) : Boxed (w1.setCell ⟨B, 0, none⟩ v') b t u :=
  boxed_other ((h.alloc tmp).kept hgrow (h.not_row hte hrow)) hb _
theorem row_set {W : World} {n₀ b : Nat} {t e : TypeId} {size k : Nat} {u v : Value} {xs : List Value} (h : W.ownsRow n₀ e size v k xs) (hb : Boxed W b t u) (hte : t ≠ e) (u' : Value) : (W.setCell ⟨b, 0, none⟩ u').ownsRow n₀ e size v k xs :=
  h.kept (grownBy_setCell' W b u') (.inr (hb.not_row hte h).symm)
theorem row_shape {w : World} {B : Nat} {E : TypeId} {z k : Nat} {v : Value} {xs : List Value} (h : w.ownsRow B E z v k xs) : ∃ ao cap, v = .slice ao k cap := by
  rcases h.2 with ⟨hv, h0⟩ | ⟨g, cap, cur, hv, _⟩
  · exact ⟨none, 0, by rw [hv, h0]⟩
  · exact ⟨_, _, hv⟩

end Go.Proofs.Ytbaclfpkaobggaa
