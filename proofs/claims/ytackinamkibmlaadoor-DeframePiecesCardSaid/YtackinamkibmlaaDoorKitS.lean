/- My own small kit: a slice of texts that can be read; one that the call owns. -/
import Derived.Test.YtackinamkibmlaaDoorKitB
namespace Go.Proofs.YtackinamkibmlaaDoor
open Go.RowKit
set_option linter.unusedVariables false
set_option linter.unusedSimpArgs false

theorem info_str : (Tryd.prog.info? 9).map (fun i => (i.zero, i.size, i.bytes)) = some (some (.string ⟨#[]⟩), 1, 16) := by kernel_rfl

/-- v is a slice that reads as these texts -/
def IsS (w : World) (v : Value) (l : List ByteArray) : Prop :=
  ∃ p cap, v = .slice p l.length cap ∧ ∀ j (h : j < l.length), ∃ b off, p = some ⟨b, off, none⟩ ∧ w.cell? ⟨b, off + j, none⟩ = some (.string l[j])
theorem IsS.call {W w1 : World} {v : Value} {l : List ByteArray} (h : IsS W v l) (hb : Below W.heap.size W w1) : IsS w1 v l := by
  obtain ⟨p, cap, rfl, h⟩ := h
  refine ⟨p, cap, rfl, fun j hj => ?_⟩
  obtain ⟨b, off, rfl, hc⟩ := h j hj
  exact ⟨b, off, rfl, (hb.cell (p := ⟨b, off + j, none⟩) (World.block_lt_of_cell? _ _ hc)).trans hc⟩
/-- v is a slice of the call's own (from block B on) that holds these texts -/
def OwnS (w : World) (B : Nat) (v : Value) (l : List ByteArray) : Prop := w.ownsRow B 9 1 v l.length (l.map Value.string)
theorem OwnS.nil (w : World) (B : Nat) : OwnS w B (.slice none 0 0) [] := World.ownsRow_nil w B _ _
theorem OwnS.call {W w1 : World} {B : Nat} {v : Value} {l : List ByteArray} (h : OwnS W B v l) (hb : Below W.heap.size W w1) : OwnS w1 B v l := by
  obtain ⟨h1, h2⟩ := h
  refine ⟨h1, ?_⟩
  rcases h2 with h2 | ⟨g, cap, cur, hv, hB, hg, r⟩
  · exact .inl h2
  · have hl : g < W.heap.size := (Array.getElem?_eq_some_iff.1 hg).1
    exact .inr ⟨g, cap, cur, hv, hB, (hb.block g hl).trans hg, r⟩
theorem OwnS.mono {w : World} {B B' : Nat} {v : Value} {l : List ByteArray} (h : OwnS w B v l) (hB : B' ≤ B) : OwnS w B' v l := by
  obtain ⟨h1, h2⟩ := h
  refine ⟨h1, ?_⟩
  rcases h2 with h2 | ⟨g, cap, cur, hv, hb, r⟩
  · exact .inl h2
  · exact .inr ⟨g, cap, cur, hv, Nat.le_trans hB hb, r⟩
theorem OwnS.reads {w : World} {B : Nat} {v : Value} {l : List ByteArray} (h : OwnS w B v l) : IsS w v l := by
  have h' : w.ownsRow B 9 1 v l.length (l.map Value.string) := h
  rcases h.2 with ⟨hv, hn⟩ | ⟨g, cap, cur, hv, hB, hg, r⟩
  · obtain rfl := List.eq_nil_of_length_eq_zero hn
    exact ⟨none, 0, hv, fun j hj => by cases hj⟩
  · subst hv
    refine ⟨_, cap, rfl, fun j hj => ⟨g, 0, rfl, ?_⟩⟩
    rw [Nat.zero_add, h'.cellAt j (by omega)]
    simp [hj]
/-- a call that hands back texts and a number -/
def RetS (w : World) (l : List ByteArray) (c : Int) (e : Ending) (w' : World) : Prop := ∃ v, e = .returned (.tuple #[v, .int .i64 c]) ∧ OwnS w' w.heap.size v l ∧ Below w.heap.size w w'
theorem RetS.mk {w w' : World} {l : List ByteArray} {c : Int} {v : Value} (h : OwnS w' w.heap.size v l) (hb : Below w.heap.size w w') : RetS w l c (.returned (.tuple #[v, .int .i64 c])) w' := ⟨v, rfl, h, hb⟩
theorem Row3.grown {w w1 : World} {b : Nat} {x y z : Value} {row : Option Nat} (h : Row3 w b x y z) (hg : w.grownBy w1 row) (hl : b < w.heap.size) (hn : some b ≠ row) : Row3 w1 b x y z := by
  have e := hg.block b hl hn
  exact ⟨⟨(World.cell?_of_block (w := w) e).trans h.1.1, (World.cell?_of_block (w := w) e).trans h.1.2.1, (World.cell?_of_block (w := w) e).trans h.1.2.2⟩,
    (World.frozen?_of_block (w := w) e).trans h.2.1, (World.frozen?_of_block (w := w) e).trans h.2.2.1, (World.frozen?_of_block (w := w) e).trans h.2.2.2⟩
theorem Row3.alloc {w : World} {b : Nat} {x y z : Value} (h : Row3 w b x y z) (hl : b < w.heap.size) (o : Obj) : Row3 (w.alloc o) b x y z := by
  have e := Below.heap_alloc w o b hl
  exact ⟨⟨(World.cell?_of_block (w := w) e).trans h.1.1, (World.cell?_of_block (w := w) e).trans h.1.2.1, (World.cell?_of_block (w := w) e).trans h.1.2.2⟩,
    (World.frozen?_of_block (w := w) e).trans h.2.1, (World.frozen?_of_block (w := w) e).trans h.2.2.1, (World.frozen?_of_block (w := w) e).trans h.2.2.2⟩
theorem Row3.lt {w : World} {b : Nat} {x y z : Value} (h : Row3 w b x y z) : b < w.heap.size := World.block_lt_of_cell? _ _ h.1.1
end Go.Proofs.YtackinamkibmlaaDoor
