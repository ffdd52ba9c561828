/- My own small kit: a slice that the call owns and that holds these bytes. -/
import Derived.Test.YtjnonngnkkdmdaaKit
import Derived.Lib.AppendStr
import Derived.Lib.SlBytesRow
import Derived.Lib.BufferRead
import Derived.OwnWalk
import Derived.Laws.OwnMore
import Derived.Laws.AppendOwnNone
namespace Go.Proofs.Ytjnonngnkkdmdaa
open Go.RowKit
open Go.Lib (byteCells)
set_option linter.unusedVariables false
set_option linter.unusedSimpArgs false

theorem info_u8 : (Try.prog.info? 5).map (fun i => (i.zero, i.size, i.bytes)) = some (some (.int .u8 0), 1, 1) := by kernel_rfl

/-- v is a slice of the call's own (from block B on) that holds the bytes l -/
def IsB (w : World) (B : Nat) (v : Value) (l : List UInt8) : Prop := w.ownsRow B 5 1 v l.length (byteCells l)
theorem IsB.nil (w : World) (B : Nat) : IsB w B (.slice none 0 0) [] := World.ownsRow_nil w B _ _
theorem IsB.call {W w1 : World} {B : Nat} {v : Value} {l : List UInt8} (h : IsB W B v l) (hb : Below W.heap.size W w1) : IsB w1 B v l := by
  obtain ⟨h1, h2⟩ := h
  refine ⟨h1, ?_⟩
  rcases h2 with h2 | ⟨g, cap, cur, hv, hB, hg, r⟩
  · exact .inl h2
  · have hl : g < W.heap.size := (Array.getElem?_eq_some_iff.1 hg).1
    exact .inr ⟨g, cap, cur, hv, hB, (hb.block g hl).trans hg, r⟩
theorem IsB.mono {w : World} {B B' : Nat} {v : Value} {l : List UInt8} (h : IsB w B v l) (hB : B' ≤ B) : IsB w B' v l := by
  obtain ⟨h1, h2⟩ := h
  refine ⟨h1, ?_⟩
  rcases h2 with h2 | ⟨g, cap, cur, hv, hb, r⟩
  · exact .inl h2
  · exact .inr ⟨g, cap, cur, hv, Nat.le_trans hB hb, r⟩
theorem IsB.alloc {w : World} {B : Nat} {v : Value} {l : List UInt8} (h : IsB w B v l) (o : Obj) : IsB (w.alloc o) B v l := World.ownsRow.alloc h o
theorem IsB.shape {w : World} {B : Nat} {v : Value} {l : List UInt8} (h : IsB w B v l) : (v = .slice none 0 0 ∧ l = []) ∨ ∃ g cap, v = .slice (some ⟨g, 0, none⟩) l.length cap ∧ B ≤ g ∧ g < w.heap.size := by
  obtain ⟨_, h2⟩ := h
  rcases h2 with ⟨h, hn⟩ | ⟨g, cap, cur, hv, hB, hg, r⟩
  · exact .inl ⟨h, List.eq_nil_of_length_eq_zero hn⟩
  · exact .inr ⟨g, cap, hv, hB, (Array.getElem?_eq_some_iff.1 hg).1⟩
theorem size_mk (l : List UInt8) : (ByteArray.mk l.toArray).size = l.length := by show l.toArray.size = _; simp
/-- 'string(v)' -/
theorem IsB.str {w : World} {B : Nat} {v : Value} {l : List UInt8} (h : IsB w B v l) : (convert 50 9 v).run Try.prog w = .ok (.string ⟨l.toArray⟩) w := by
  obtain ⟨h1, h2⟩ := h
  rcases h2 with ⟨hv, hn⟩ | ⟨g, cap, cur, hv, hB, hg, hle, hcm, hcs, ht⟩
  · obtain rfl := List.eq_nil_of_length_eq_zero hn
    subst hv
    exact Lib.run_convert_nil_bytes (P := Try.prog) w _ _ _ 0 Try.underlying50 Try.underlying5 Try.underlying9
  · subst hv
    have hb : Lib.Bytes w g 0 ⟨l.toArray⟩ := by
      intro i hi
      have hi' : i < l.length := by rw [size_mk] at hi; exact hi
      have := Lib.bytes_of_row hg (l := l) (by simpa using ht) i hi'
      rw [Addr.add_lit] at this
      rw [this]
      rfl
    have := Lib.run_convert_whole (P := Try.prog) w 50 5 9 Try.underlying50 Try.underlying5 Try.underlying9 g 0 ⟨l.toArray⟩ hb cap
    rw [size_mk] at this; exact this
/-- a call that hands back bytes and a number -/
def RetB (w : World) (l : List UInt8) (c : Int) (e : Ending) (w' : World) : Prop := ∃ v, e = .returned (.tuple #[v, .int .i64 c]) ∧ IsB w' w.heap.size v l ∧ Below w.heap.size w w'
theorem RetB.mk {w w' : World} {l : List UInt8} {c : Int} {v : Value} (h : IsB w' w.heap.size v l) (hb : Below w.heap.size w w') : RetB w l c (.returned (.tuple #[v, .int .i64 c])) w' := ⟨v, rfl, h, hb⟩
end Go.Proofs.Ytjnonngnkkdmdaa
