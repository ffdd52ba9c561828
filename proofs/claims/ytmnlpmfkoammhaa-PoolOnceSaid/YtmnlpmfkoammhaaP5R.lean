/- Layer 3: three rows of numbers that grow by turns; what lies in new memory stays; the steps of PoolOnce as its walk asks for them. -/
import Derived.Test.YtmnlpmfkoammhaaP4T
import Derived.Test.YtmnlpmfkoammhaaP5M
namespace Go.Proofs.Ytmnlpmfkoammhaa
open Go.RowKit
set_option linter.unusedVariables false
set_option linter.unusedSimpArgs false

/-- three rows of the call's own, each in a block of its own -/
structure Rows3 (w : World) (B : Nat) (u v x : Value) (a b c : List Int) : Prop where
  r1 : OwnI w B u a
  r2 : OwnI w B v b
  r3 : OwnI w B x c
  d12 : ∀ q, u.ownBlock = some q → v.ownBlock = some q → False
  d13 : ∀ q, u.ownBlock = some q → x.ownBlock = some q → False
  d23 : ∀ q, v.ownBlock = some q → x.ownBlock = some q → False
theorem Rows3.nil (w : World) (B : Nat) : Rows3 w B (.slice none 0 0) (.slice none 0 0) (.slice none 0 0) [] [] [] :=
  ⟨OwnI.nil _ _, OwnI.nil _ _, OwnI.nil _ _, (fun q h => by cases h), (fun q h => by cases h), (fun q h => by cases h)⟩
section
variable {w w' : World} {B : Nat} {u v x : Value} {a b c : List Int}
theorem Rows3.rot (h : Rows3 w B u v x a b c) : Rows3 w B v x u b c a := ⟨h.r2, h.r3, h.r1, h.d23, (fun q e f => h.d12 q f e), (fun q e f => h.d13 q f e)⟩
theorem Rows3.call (h : Rows3 w B u v x a b c) (hb : Below w.heap.size w w') : Rows3 w' B u v x a b c := ⟨h.r1.call hb, h.r2.call hb, h.r3.call hb, h.d12, h.d13, h.d23⟩
theorem Rows3.alloc (h : Rows3 w B u v x a b c) (o : Obj) : Rows3 (w.alloc o) B u v x a b c := h.call ((Below.refl _ _).alloc (Nat.le_refl _) o)
theorem Rows3.below (h : Rows3 w B u v x a b c) (p : Addr) (y : Value) (hp : p.block < B) : Rows3 (w.setCell p y) B u v x a b c := ⟨h.r1.below p y hp, h.r2.below p y hp, h.r3.below p y hp, h.d12, h.d13, h.d23⟩
theorem Rows3.grow {g cap : Nat} {y : Int} (h : Rows3 w B u v x a b c) (hown : w'.ownsRow B 3 1 (.slice (some ⟨g, 0, none⟩) (a.length + 1) cap) (a.length + 1) (a.map (Value.int .i64) ++ [.int .i64 y])) (hg : w.grownBy w' u.ownBlock)
    (hat : u.ownBlock = some g ∨ g = w.heap.size) : Rows3 w' B (.slice (some ⟨g, 0, none⟩) (a.length + 1) cap) v x (a ++ [y]) b c := by
  refine ⟨?_, ownsRow_grown h.r2 hg (fun q hq e => h.d12 q e.symm hq), ownsRow_grown h.r3 hg (fun q hq e => h.d13 q e.symm hq), fun q e f => ?_, fun q e f => ?_, h.d23⟩
  · show World.ownsRow _ _ _ _ _ _ _
    rw [List.length_append, List.map_append]; exact hown
  · cases e
    rcases hat with hat | hat
    · exact h.d12 _ hat f
    · have : g < w.heap.size := (World.ownsRow.lt h.r2 _ f).2; omega
  · cases e
    rcases hat with hat | hat
    · exact h.d13 _ hat f
    · have : g < w.heap.size := (World.ownsRow.lt h.r3 _ f).2; omega
/-- a row laid anew in place of the first -/
theorem Rows3.renew {u' : Value} {a' : List Int} {B' : Nat} (h : Rows3 w B u v x a b c) (hr : Below w.heap.size w w') (hn : OwnI w' B' u' a') (hB : w.heap.size ≤ B') (hBB : B ≤ B') : Rows3 w' B u' v x a' b c :=
  ⟨hn.mono hBB, h.r2.call hr, h.r3.call hr, (fun q e f => by have h1 := (World.ownsRow.lt hn _ e).1; have h2 := (World.ownsRow.lt h.r2 _ f).2; omega), (fun q e f => by have h1 := (World.ownsRow.lt hn _ e).1; have h2 := (World.ownsRow.lt h.r3 _ f).2; omega), h.d23⟩
end
/-- the blocks from lo on stay -/
def Keep (lo : Nat) (w w' : World) : Prop := w.heap.size ≤ w'.heap.size ∧ ∀ k, lo ≤ k → k < w.heap.size → w'.heap[k]? = w.heap[k]?
theorem Keep.refl (lo : Nat) (w : World) : Keep lo w w := ⟨Nat.le_refl _, fun _ _ _ => rfl⟩
theorem Keep.trans {lo : Nat} {a b c : World} (h : Keep lo a b) (h' : Keep lo b c) : Keep lo a c := ⟨Nat.le_trans h.1 h'.1, fun k h1 h2 => (h'.2 k h1 (Nat.lt_of_lt_of_le h2 h.1)).trans (h.2 k h1 h2)⟩
theorem Keep.below {lo : Nat} {a b : World} (h : Below a.heap.size a b) : Keep lo a b := ⟨h.size, fun k _ h2 => h.block k h2⟩
theorem Keep.grown {lo : Nat} {a b : World} {row : Option Nat} (h : a.grownBy b row) (hr : ∀ q, row = some q → q < lo) : Keep lo a b := ⟨h.size, fun k h1 h2 => h.block k h2 (fun e => by have := hr k e.symm; omega)⟩
theorem IsSt.keep {lo : Nat} {w w' : World} {vc vf : Value} {st : St} (h : IsSt w vc vf st) (f1 : FromB lo vc) (f2 : FromB lo vf) (k : Keep lo w w') : IsSt w' vc vf st := by
  obtain ⟨⟨pc, cc, rfl, hp⟩, ⟨pf, cf, rfl, hq⟩⟩ := h
  have go : ∀ (b o : Nat) (u : Value), lo ≤ b → w.cell? ⟨b, o, none⟩ = some u → w'.cell? ⟨b, o, none⟩ = some u := fun b o u hb hu =>
    (World.cell?_of_block (a := ⟨b, o, none⟩) (k.2 b hb (World.block_lt_of_cell? _ _ hu))).trans hu
  refine ⟨⟨pc, cc, rfl, fun j hj => ?_⟩, ⟨pf, cf, rfl, fun j hj => ?_⟩⟩
  · obtain ⟨b, off, rfl, h0, h1, h2⟩ := hp j hj
    have hb := f1 b off none _ _ rfl
    exact ⟨b, off, rfl, go _ _ _ hb h0, go _ _ _ hb h1, go _ _ _ hb h2⟩
  · obtain ⟨b, off, rfl, h0⟩ := hq j hj
    have hb := f2 b off none _ _ rfl
    exact ⟨b, off, rfl, go _ _ _ hb h0⟩
theorem once_mono {n i : Nat} {st : St} {live all has : List Int} (I : OnceInv n i st live all has) : OnceInv n (i + 1) st live all has :=
  ⟨I.ok, I.len, I.fre, (fun j hj => by have := I.gen j hj; omega), I.liv, I.hal, I.nod, I.val, I.old⟩
theorem once_lens {n i : Nat} {st : St} {live all has : List Int} (I : OnceInv n i st live all has) : st.1.length ≤ 64 ∧ st.2.length ≤ 64 ∧ live.length ≤ 64 ∧ has.length ≤ 64 := by
  have h1 := I.fre
  have h2 := I.len
  have h3 := I.ok.2.1
  have h4 := I.liv
  have h5 := I.hal
  exact ⟨by omega, by omega, by omega, by omega⟩
end Go.Proofs.Ytmnlpmfkoammhaa
