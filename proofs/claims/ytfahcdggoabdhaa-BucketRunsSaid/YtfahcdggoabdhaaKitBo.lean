/- My own small kit: a row of bools that can be read; one that the call owns; one bool put behind it. -/
import Derived.Test.YtfahcdggoabdhaaKitI
import Derived.Laws.AppendOwn
namespace Go.Proofs.Ytfahcdggoabdhaa
open Go.RowKit
set_option linter.unusedVariables false
set_option linter.unusedSimpArgs false

theorem info_bool : (Try.prog.info? 4).map (fun i => (i.zero, i.size, i.bytes)) = some (some (.bool false), 1, 1) := by kernel_rfl
/-- v is a slice that reads as these bools -/
def IsBo (w : World) (v : Value) (l : List Bool) : Prop :=
  ∃ p cap, v = .slice p l.length cap ∧ ∀ j (h : j < l.length), ∃ b off, p = some ⟨b, off, none⟩ ∧ w.cell? ⟨b, off + j, none⟩ = some (.bool l[j])
theorem IsBo.call {W w1 : World} {v : Value} {l : List Bool} (h : IsBo W v l) (hb : Below W.heap.size W w1) : IsBo w1 v l := by
  obtain ⟨p, cap, rfl, h⟩ := h
  refine ⟨p, cap, rfl, fun j hj => ?_⟩
  obtain ⟨b, off, rfl, hc⟩ := h j hj
  exact ⟨b, off, rfl, (hb.cell (p := ⟨b, off + j, none⟩) (World.block_lt_of_cell? _ _ hc)).trans hc⟩
/-- v is a slice of the call's own (from block B on) that holds these bools -/
def OwnBo (w : World) (B : Nat) (v : Value) (l : List Bool) : Prop := w.ownsRow B 4 1 v l.length (l.map Value.bool)
theorem OwnBo.nil (w : World) (B : Nat) : OwnBo w B (.slice none 0 0) [] := World.ownsRow_nil w B _ _
theorem OwnBo.call {W w1 : World} {B : Nat} {v : Value} {l : List Bool} (h : OwnBo W B v l) (hb : Below W.heap.size W w1) : OwnBo w1 B v l := World.ownsRow.call' h hb
theorem OwnBo.mono {w : World} {B B' : Nat} {v : Value} {l : List Bool} (h : OwnBo w B v l) (hB : B' ≤ B) : OwnBo w B' v l := by
  obtain ⟨h1, h2⟩ := h
  refine ⟨h1, ?_⟩
  rcases h2 with h2 | ⟨g, cap, cur, hv, hb, r⟩
  · exact .inl h2
  · exact .inr ⟨g, cap, cur, hv, Nat.le_trans hB hb, r⟩
theorem OwnBo.below {w : World} {B : Nat} {v : Value} {l : List Bool} (h : OwnBo w B v l) (a : Addr) (u : Value) (hb : a.block < B) : OwnBo (w.setCell a u) B v l := ownsRow_setCell_below h (a := a) hb u
theorem OwnBo.alloc {w : World} {B : Nat} {v : Value} {l : List Bool} (h : OwnBo w B v l) (o : Obj) : OwnBo (w.alloc o) B v l := h.call (below_alloc (Nat.le_refl _) (Below.refl _ _) o)
theorem OwnBo.reads {w : World} {B : Nat} {v : Value} {l : List Bool} (h : OwnBo w B v l) : IsBo w v l := by
  have h' : w.ownsRow B 4 1 v l.length (l.map Value.bool) := h
  rcases h.2 with ⟨hv, hn⟩ | ⟨g, cap, cur, hv, hB, hg, r⟩
  · obtain rfl := List.eq_nil_of_length_eq_zero hn
    exact ⟨none, 0, hv, fun j hj => by cases hj⟩
  · subst hv
    refine ⟨_, cap, rfl, fun j hj => ⟨g, 0, rfl, ?_⟩⟩
    rw [Nat.zero_add, h'.cellAt j (by omega)]
    simp [hj]
theorem app_bool {w : World} {ops : Array Oper} {rest : List Oper} {o : Oper} {a : Act} {Q : Exit → Act → World → Prop} (hgd : o.guard = none) (s x : Operand)
    (ho : o.op = .call { callee := .builtin .append, args := #[s, x], argTypes := #[48, 48] }) (B : Nat) (l : List Bool) (v : Value) (tx : Bool) (ad : Addr)
    (hs : a.eval s = v) (hown : OwnBo w B v l) (hx : a.eval x = .slice (some ad) 1 1) (hc : w.cell? ad = some (.bool tx)) (hl : l.length ≤ 1000000000) (hB : B ≤ w.heap.size)
    (h : ∀ v' w', OwnBo w' B v' (l ++ [tx]) → Below B w w' → wpList Try.prog ops Q rest (a.put o.dst v') w') : wpList Try.prog ops Q (o :: rest) a w := by
  obtain ⟨i0, hi, hz0, hz1, hz2⟩ := info_parts info_bool
  refine wpList_append_own w hgd s x 48 ho B 4 i0 (.bool false) 1 1 Try.underlying48 hi hz0 hz1 hz2 rfl (by decide) v l.length (l.map Value.bool) hs hown ad 1 1 [Value.bool tx] hx rfl (fun j u hj => ?_) (by simp [Value.oneCell']) (by unfold maxLen; omega) (by omega) hB ?_
  · cases j with
    | zero =>
      cases hj
      exact hc
    | succ j => cases hj
  · intro v' w' h2 h3 _
    refine h v' w' ?_ ((Below.refl B w).grown h3 hB (fun j hj => (World.ownsRow.lt hown j hj).1))
    show w'.ownsRow _ _ _ _ (l ++ [tx]).length ((l ++ [tx]).map Value.bool)
    rw [List.length_append, List.map_append]
    exact h2
end Go.Proofs.Ytfahcdggoabdhaa
