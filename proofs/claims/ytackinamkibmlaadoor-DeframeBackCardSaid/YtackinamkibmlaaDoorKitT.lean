/- My own small kit: a text that is put behind a slice of texts of the call's own. -/
import Derived.Test.YtackinamkibmlaaDoorKitS
import Derived.Laws.AppendOwn
namespace Go.Proofs.YtackinamkibmlaaDoor
open Go.RowKit
set_option linter.unusedVariables false
set_option linter.unusedSimpArgs false

theorem OwnS.alloc {w : World} {B : Nat} {v : Value} {l : List ByteArray} (h : OwnS w B v l) (o : Obj) : OwnS (w.alloc o) B v l := h.call (below_alloc (Nat.le_refl _) (Below.refl _ _) o)
theorem app_one {w : World} {ops : Array Oper} {rest : List Oper} {o : Oper} {a : Act} {Q : Exit → Act → World → Prop} (hgd : o.guard = none) (s x : Operand)
    (ho : o.op = .call { callee := .builtin .append, args := #[s, x], argTypes := #[47, 47] }) (B : Nat) (l : List ByteArray) (v : Value) (tx : ByteArray) (ad : Addr)
    (hs : a.eval s = v) (hown : OwnS w B v l) (hx : a.eval x = .slice (some ad) 1 1) (hc : w.cell? ad = some (.string tx)) (hl : l.length ≤ 1000000000) (hB : B ≤ w.heap.size)
    (h : ∀ v' w', OwnS w' B v' (l ++ [tx]) → Below B w w' → wpList Tryd.prog ops Q rest (a.put o.dst v') w') : wpList Tryd.prog ops Q (o :: rest) a w := by
  obtain ⟨i0, hi, hz0, hz1, hz2⟩ := info_parts info_str
  refine wpList_append_own w hgd s x 47 ho B 9 i0 (.string ⟨#[]⟩) 1 16 Tryd.underlying47 hi hz0 hz1 hz2 rfl (by decide) v l.length (l.map Value.string) hs hown ad 1 1 [Value.string tx] hx rfl (fun j u hj => ?_) (by simp [Value.oneCell']) (by unfold maxLen; omega) (by omega) hB ?_
  · cases j with
    | zero =>
      cases hj
      exact hc
    | succ j => cases hj
  · intro v' w' h2 h3 _
    refine h v' w' ?_ ((Below.refl B w).grown h3 hB (fun j hj => (World.ownsRow.lt hown j hj).1))
    show w'.ownsRow _ _ _ _ (l ++ [tx]).length ((l ++ [tx]).map Value.string)
    rw [List.length_append, List.map_append]
    exact h2
end Go.Proofs.YtackinamkibmlaaDoor
