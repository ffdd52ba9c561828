/- Layer 2: all characters of a text: the program's. -/
import Derived.Test.YtiiikfcipnggeaaDoorUE2
import Derived.Test.YtiiikfcipnggeaaDoorKitI
namespace Go.Proofs.YtiiikfcipnggeaaDoor
open Go.RowKit Go.Shelf
open Go.Lib (byteCells)
set_option linter.unusedVariables false
set_option linter.unusedSimpArgs false
attribute [local go_sem] Oper.semAt_some

def allL (l : List UInt8) : List Int := if okB l then (chs l).map fun y => y.1.1 else []
theorem allL_yes {l : List UInt8} (h : ∀ y ∈ chs l, y.1.1 ≠ -1) : allL l = (chs l).map fun y => y.1.1 := by
  have : okB l = true := by unfold okB; rw [List.all_eq_true]; intro y hy; simpa using h y hy
  unfold allL; rw [if_pos this]
theorem allL_no {l : List UInt8} {pre : List Ch} (hp : pre <+: chs l) (h : ∃ y ∈ pre, y.1.1 = -1) : allL l = [] := by
  have h1 := okB_no hp h
  unfold okE at h1
  unfold allL
  cases hb : okB l with
  | true => rw [hb] at h1; simp at h1
  | false => rfl
theorem boxed_app {W w1 : World} {n₀ b B : Nat} {t e : TypeId} {size k : Nat} {u v v' : Value} {xs : List Value} {tmp : Obj} (h : Boxed W b t u) (hte : t ≠ e) (hrow : W.ownsRow n₀ e size v k xs)
    (hgrow : (W.alloc tmp).grownBy w1 v.ownBlock) (hb : B ≠ b) : Boxed (w1.setCell ⟨B, 0, none⟩ v') b t u :=
  boxed_other ((h.alloc tmp).kept hgrow (h.not_row hte hrow)) hb _
theorem row_set {W : World} {n₀ b : Nat} {t e : TypeId} {size k : Nat} {u v : Value} {xs : List Value} (h : W.ownsRow n₀ e size v k xs) (hb : Boxed W b t u) (hte : t ≠ e) (u' : Value) : (W.setCell ⟨b, 0, none⟩ u').ownsRow n₀ e size v k xs :=
  h.kept (grownBy_setCell' W b u') (.inr (hb.not_row hte h).symm)
theorem row_shape {w : World} {B : Nat} {E : TypeId} {z k : Nat} {v : Value} {xs : List Value} (h : w.ownsRow B E z v k xs) : ∃ ao cap, v = .slice ao k cap := by
  rcases h.2 with ⟨hv, h0⟩ | ⟨g, cap, cur, hv, _⟩
  · exact ⟨none, 0, by rw [hv, h0]⟩
  · exact ⟨_, _, hv⟩

end Go.Proofs.YtiiikfcipnggeaaDoor
