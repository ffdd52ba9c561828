/- My own small kit: a slice of numbers that can be read; one that the call owns. -/
import Derived.Test.YtjnonngnkkdmdaaKitB
namespace Go.Proofs.Ytjnonngnkkdmdaa
open Go.RowKit
set_option linter.unusedVariables false
set_option linter.unusedSimpArgs false

theorem info_int : (Try.prog.info? 3).map (fun i => (i.zero, i.size, i.bytes)) = some (some (.int .i64 0), 1, 8) := by kernel_rfl

theorem _root_.Go.World.ownsRow.call' {W w1 : World} {B : Nat} {E : TypeId} {z k : Nat} {v : Value} {xs : List Value} (h : W.ownsRow B E z v k xs) (hb : Below W.heap.size W w1) : w1.ownsRow B E z v k xs := by
  obtain ⟨h1, h2⟩ := h
  refine ⟨h1, ?_⟩
  rcases h2 with h2 | ⟨g, cap, cur, hv, hB, hg, r⟩
  · exact .inl h2
  · have hl : g < W.heap.size := (Array.getElem?_eq_some_iff.1 hg).1
    exact .inr ⟨g, cap, cur, hv, hB, (hb.block g hl).trans hg, r⟩
/-- v is a slice that reads as these numbers of kind q -/
def IsIk (q : IntKind) (w : World) (v : Value) (l : List Int) : Prop :=
  ∃ p cap, v = .slice p l.length cap ∧ ∀ j (h : j < l.length), ∃ b off, p = some ⟨b, off, none⟩ ∧ w.cell? ⟨b, off + j, none⟩ = some (.int q l[j])
theorem IsIk.call {q : IntKind} {W w1 : World} {v : Value} {l : List Int} (h : IsIk q W v l) (hb : Below W.heap.size W w1) : IsIk q w1 v l := by
  obtain ⟨p, cap, rfl, h⟩ := h
  refine ⟨p, cap, rfl, fun j hj => ?_⟩
  obtain ⟨b, off, rfl, hc⟩ := h j hj
  exact ⟨b, off, rfl, (hb.cell (p := ⟨b, off + j, none⟩) (World.block_lt_of_cell? _ _ hc)).trans hc⟩
abbrev IsI := IsIk .i64
/-- v is a slice of the call's own (from block B on) that holds these numbers -/
def OwnI (w : World) (B : Nat) (v : Value) (l : List Int) : Prop := w.ownsRow B 3 1 v l.length (l.map (Value.int .i64))
theorem OwnI.nil (w : World) (B : Nat) : OwnI w B (.slice none 0 0) [] := World.ownsRow_nil w B _ _
theorem OwnI.call {W w1 : World} {B : Nat} {v : Value} {l : List Int} (h : OwnI W B v l) (hb : Below W.heap.size W w1) : OwnI w1 B v l := by
  obtain ⟨h1, h2⟩ := h
  refine ⟨h1, ?_⟩
  rcases h2 with h2 | ⟨g, cap, cur, hv, hB, hg, r⟩
  · exact .inl h2
  · have hl : g < W.heap.size := (Array.getElem?_eq_some_iff.1 hg).1
    exact .inr ⟨g, cap, cur, hv, hB, (hb.block g hl).trans hg, r⟩
theorem OwnI.mono {w : World} {B B' : Nat} {v : Value} {l : List Int} (h : OwnI w B v l) (hB : B' ≤ B) : OwnI w B' v l := by
  obtain ⟨h1, h2⟩ := h
  refine ⟨h1, ?_⟩
  rcases h2 with h2 | ⟨g, cap, cur, hv, hb, r⟩
  · exact .inl h2
  · exact .inr ⟨g, cap, cur, hv, Nat.le_trans hB hb, r⟩
theorem OwnI.reads {w : World} {B : Nat} {v : Value} {l : List Int} (h : OwnI w B v l) : IsI w v l := by
  have h' : w.ownsRow B 3 1 v l.length (l.map (Value.int .i64)) := h
  rcases h.2 with ⟨hv, hn⟩ | ⟨g, cap, cur, hv, hB, hg, r⟩
  · obtain rfl := List.eq_nil_of_length_eq_zero hn
    exact ⟨none, 0, hv, fun j hj => by cases hj⟩
  · subst hv
    refine ⟨_, cap, rfl, fun j hj => ⟨g, 0, rfl, ?_⟩⟩
    rw [Nat.zero_add, h'.cellAt j (by omega)]
    simp [hj]
/-- a call that hands back numbers and a number -/
def RetI (w : World) (l : List Int) (c : Int) (e : Ending) (w' : World) : Prop := ∃ v, e = .returned (.tuple #[v, .int .i64 c]) ∧ OwnI w' w.heap.size v l ∧ Below w.heap.size w w'
theorem RetI.mk {w w' : World} {l : List Int} {c : Int} {v : Value} (h : OwnI w' w.heap.size v l) (hb : Below w.heap.size w w') : RetI w l c (.returned (.tuple #[v, .int .i64 c])) w' := ⟨v, rfl, h, hb⟩
end Go.Proofs.Ytjnonngnkkdmdaa
