/- Layer 14, for SourceApart: an array of ten buckets in memory; ten rows of numbers that grow apart; where a slice lies. -/
import Derived.Test.YtpmabkegjdjodaaS14E
import Derived.Test.YtpmabkegjdjodaaB13B
namespace Go.Proofs.Ytpmabkegjdjodaa
open Go.RowKit
set_option linter.unusedVariables false
set_option linter.unusedSimpArgs false

/-- block b holds ten buckets -/
def AR (W : World) (b : Nat) (f : Nat → Int × Int) : Prop :=
  ∀ k, k < 10 → (W.cell? ⟨b, k * 2, none⟩ = some (.int .i64 (f k).1) ∧ W.cell? ⟨b, k * 2 + 1, none⟩ = some (.int .i64 (f k).2)) ∧ (W.frozen? ⟨b, k * 2, none⟩ = false ∧ W.frozen? ⟨b, k * 2 + 1, none⟩ = false)
theorem AR.lt {W : World} {b : Nat} {f : Nat → Int × Int} (h : AR W b f) : b < W.heap.size := World.block_lt_of_cell? _ _ (h 0 (by decide)).1.1
theorem AR.far {W w1 : World} {n b : Nat} {f : Nat → Int × Int} (h : AR W b f) (hb : Below n W w1) (hn : b < n) : AR w1 b f := fun k hk =>
  ⟨⟨(hb.cell (p := ⟨b, k * 2, none⟩) hn).trans (h k hk).1.1, (hb.cell (p := ⟨b, k * 2 + 1, none⟩) hn).trans (h k hk).1.2⟩, (hb.frozen (p := ⟨b, k * 2, none⟩) hn).trans (h k hk).2.1, (hb.frozen (p := ⟨b, k * 2 + 1, none⟩) hn).trans (h k hk).2.2⟩
theorem AR.call {W w1 : World} {b : Nat} {f : Nat → Int × Int} (h : AR W b f) (hb : Below W.heap.size W w1) : AR w1 b f := h.far hb h.lt
theorem AR.grown {W w1 : World} {b : Nat} {f : Nat → Int × Int} {row : Option Nat} (h : AR W b f) (hg : W.grownBy w1 row) (hn : some b ≠ row) : AR w1 b f := by
  have e := hg.block b h.lt hn
  intro k hk
  exact ⟨⟨(World.cell?_of_block (w := W) (a := ⟨b, k * 2, none⟩) e).trans (h k hk).1.1, (World.cell?_of_block (w := W) (a := ⟨b, k * 2 + 1, none⟩) e).trans (h k hk).1.2⟩, (World.frozen?_of_block (w := W) (a := ⟨b, k * 2, none⟩) e).trans (h k hk).2.1, (World.frozen?_of_block (w := W) (a := ⟨b, k * 2 + 1, none⟩) e).trans (h k hk).2.2⟩
theorem AR.other {W : World} {b : Nat} {f : Nat → Int × Int} (h : AR W b f) {p : Addr} (hp : p.block ≠ b) (u : Value) : AR (W.setCell p u) b f := by
  have hq : ∀ o, p ≠ ⟨b, o, none⟩ := fun o e => hp (by rw [e])
  intro k hk
  exact ⟨⟨by rw [World.cell?_setCell_other _ _ _ _ (hq _)]; exact (h k hk).1.1, by rw [World.cell?_setCell_other _ _ _ _ (hq _)]; exact (h k hk).1.2⟩, by simpa using (h k hk).2.1, by simpa using (h k hk).2.2⟩
theorem AR.set {W : World} {b s : Nat} {f : Nat → Int × Int} (h : AR W b f) (hs : s < 10) (x y : Int) :
    AR ((W.setCell ⟨b, s * 2, none⟩ (.int .i64 x)).setCell ⟨b, s * 2 + 1, none⟩ (.int .i64 y)) b (fun k => if k = s then (x, y) else f k) := by
  intro k hk
  obtain ⟨⟨a1, a2⟩, a3, a4⟩ := h k hk
  refine ⟨?_, by simpa using a3, by simpa using a4⟩
  by_cases e : k = s
  · subst e
    simp only [if_true]
    constructor
    · rw [World.cell?_setCell_other _ _ _ _ (by simp)]
      exact World.cell?_setCell_same _ _ _ a1
    · exact World.cell?_setCell_same _ _ _ (by rw [World.cell?_setCell_other _ _ _ _ (by simp)]; exact a2)
  · simp only [if_neg e]
    constructor
    · rw [World.cell?_setCell_other _ _ _ _ (by first | (simp; done) | (simp; omega)), World.cell?_setCell_other _ _ _ _ (by first | (simp; done) | (simp; omega))]
      exact a1
    · rw [World.cell?_setCell_other _ _ _ _ (by first | (simp; done) | (simp; omega)), World.cell?_setCell_other _ _ _ _ (by first | (simp; done) | (simp; omega))]
      exact a2
theorem AR.eq {W : World} {b : Nat} {f g : Nat → Int × Int} (h : AR W b f) (e : ∀ k, k < 10 → f k = g k) : AR W b g := fun k hk => by rw [← e k hk]; exact h k hk
/-- the block that a slice points into -/
def blkV : Value → Option Nat
  | .slice (some a) _ _ => some a.block
  | _ => none
/-- a slice that lies where another one lies, or in new memory -/
def NewOr (B : Nat) (w' : World) (v v' : Value) : Prop := blkV v' = none ∨ blkV v' = blkV v ∨ ∃ b, blkV v' = some b ∧ B ≤ b ∧ b < w'.heap.size
theorem isR_set {α : Type} {z : Nat} {cs : α → List Value} {w : World} {v : Value} {l : List α} (h : IsR z cs w v l) {p : Addr} (hp : blkV v ≠ some p.block) (u : Value) : IsR z cs (w.setCell p u) v l := by
  obtain ⟨q, cap, rfl, hn, h⟩ := h
  refine ⟨q, cap, rfl, hn, fun j hj => ?_⟩
  obtain ⟨b, off, rfl, g⟩ := h j hj
  refine ⟨b, off, rfl, fun c x hx => ?_⟩
  rw [World.cell?_setCell_other _ _ _ _ (fun e => hp (by rw [e]; rfl))]
  exact g c x hx
theorem isR_grown {α : Type} {z : Nat} {cs : α → List Value} {w w' : World} {v : Value} {l : List α} {row : Option Nat} (h : IsR z cs w v l) (hg : w.grownBy w' row) (hr : blkV v = none ∨ blkV v ≠ row) : IsR z cs w' v l := by
  obtain ⟨q, cap, rfl, hn, h⟩ := h
  refine ⟨q, cap, rfl, hn, fun j hj => ?_⟩
  obtain ⟨b, off, rfl, g⟩ := h j hj
  refine ⟨b, off, rfl, fun c x hx => ?_⟩
  have hlt : b < w.heap.size := World.block_lt_of_cell? _ _ (g c x hx)
  have hne : some b ≠ row := by
    rcases hr with h1 | h1
    · exact absurd h1 (by simp [blkV])
    · exact h1
  exact (World.cell?_of_block (w := w) (a := ⟨b, off + j * z + c, none⟩) (hg.block b hlt hne)).trans (g c x hx)
theorem ownR_kept {α : Type} {te : TypeId} {z : Nat} {cs : α → List Value} {w w' : World} {B : Nat} {v : Value} {l : List α} {row : Option Nat} (h : OwnR te z cs w B v l) (hg : w.grownBy w' row) (hne : v.ownBlock = none ∨ v.ownBlock ≠ row) : OwnR te z cs w' B v l := by
  obtain ⟨h1, h2⟩ := h
  refine ⟨h1, ?_⟩
  rcases h2 with h2 | ⟨g, cap, cur, hv, hB, hgb, r⟩
  · exact .inl h2
  · have hlt : g < w.heap.size := (Array.getElem?_eq_some_iff.1 hgb).1
    have hn : some g ≠ row := by
      rcases hne with h3 | h3
      · rw [hv] at h3; simp [Value.ownBlock] at h3
      · rw [hv] at h3; simpa [Value.ownBlock] using h3
    exact .inr ⟨g, cap, cur, hv, hB, (hg.block g hlt hn).trans hgb, r⟩
/-- ten rows of numbers of the call's own, that lie apart -/
def TK (W : World) (b B : Nat) (vs : Nat → Value) (g : Nat → List Int) : Prop :=
  (∀ k, k < 10 → W.cell? ⟨b, k, none⟩ = some (vs k) ∧ W.frozen? ⟨b, k, none⟩ = false ∧ OwnR 3 1 inC W B (vs k) (g k)) ∧ (∀ j k, j < 10 → k < 10 → j ≠ k → (vs j).ownBlock = none ∨ (vs j).ownBlock ≠ (vs k).ownBlock)
theorem TK.lt {W : World} {b B : Nat} {vs : Nat → Value} {g : Nat → List Int} (h : TK W b B vs g) : b < W.heap.size := World.block_lt_of_cell? _ _ (h.1 0 (by decide)).1
theorem TK.call {W w1 : World} {b B : Nat} {vs : Nat → Value} {g : Nat → List Int} (h : TK W b B vs g) (hb : Below W.heap.size W w1) : TK w1 b B vs g :=
  ⟨fun k hk => ⟨(hb.cell (p := ⟨b, k, none⟩) h.lt).trans (h.1 k hk).1, (hb.frozen (p := ⟨b, k, none⟩) h.lt).trans (h.1 k hk).2.1, (h.1 k hk).2.2.call hb⟩, h.2⟩
theorem TK.other {W : World} {b B : Nat} {vs : Nat → Value} {g : Nat → List Int} (h : TK W b B vs g) {p : Addr} (hp : p.block ≠ b) (hB : p.block < B) (u : Value) : TK (W.setCell p u) b B vs g := by
  refine ⟨fun k hk => ⟨?_, by simpa using (h.1 k hk).2.1, (h.1 k hk).2.2.set hB u⟩, h.2⟩
  rw [World.cell?_setCell_other _ _ _ _ (fun e => hp (by rw [e]))]
  exact (h.1 k hk).1
/-- a number is put behind one of them -/
theorem TK.app {W w1 : World} {b B s : Nat} {vs : Nat → Value} {g : Nat → List Int} {v' : Value} {l' : List Int} (h : TK W b B vs g) (hs : s < 10) (hbB : b < B) (hg : W.grownBy w1 (vs s).ownBlock) (hv : OwnR 3 1 inC w1 B v' l') (hn : v'.ownBlock = (vs s).ownBlock ∨ v'.ownBlock = some W.heap.size) :
    TK (w1.setCell ⟨b, s, none⟩ v') b B (fun k => if k = s then v' else vs k) (fun k => if k = s then l' else g k) := by
  have hlt : ∀ k, k < 10 → ∀ i, (vs k).ownBlock = some i → i < W.heap.size := fun k hk i hi => (World.ownsRow.lt (h.1 k hk).2.2 i hi).2
  have hbn : some b ≠ (vs s).ownBlock := by
    intro e
    have := (World.ownsRow.lt (h.1 s hs).2.2 b e.symm).1
    omega
  have eb := hg.block b h.lt hbn
  refine ⟨fun k hk => ?_, fun j k hj hk hjk => ?_⟩
  · by_cases e : k = s
    · subst e
      simp only [if_true]
      refine ⟨World.cell?_setCell_same _ _ _ ((World.cell?_of_block (w := W) (a := ⟨b, k, none⟩) eb).trans (h.1 k hk).1), ?_, hv.set hbB _⟩
      simpa using (World.frozen?_of_block (w := W) (a := ⟨b, k, none⟩) eb).trans (h.1 k hk).2.1
    · simp only [if_neg e]
      refine ⟨?_, ?_, (ownR_kept (h.1 k hk).2.2 hg (h.2 k s hk hs e)).set hbB _⟩
      · rw [World.cell?_setCell_other _ _ _ _ (by intro e3; cases e3; exact e rfl)]
        exact (World.cell?_of_block (w := W) (a := ⟨b, k, none⟩) eb).trans (h.1 k hk).1
      · simpa using (World.frozen?_of_block (w := W) (a := ⟨b, k, none⟩) eb).trans (h.1 k hk).2.1
  · by_cases e1 : j = s
    · subst e1
      have e2 : k ≠ j := fun e => hjk e.symm
      simp only [if_true, if_neg e2]
      rcases hn with e | e
      · rw [e]; exact h.2 j k hj hk hjk
      · rw [e]
        refine .inr (fun e3 => ?_)
        have := hlt k hk _ e3.symm
        omega
    · simp only [if_neg e1]
      by_cases e2 : k = s
      · subst e2
        simp only [if_true]
        rcases hn with e | e
        · rw [e]; exact h.2 j k hj hk hjk
        · rw [e]
          cases hjb : (vs j).ownBlock with
          | none => exact .inl rfl
          | some i =>
            refine .inr (fun e3 => ?_)
            have := hlt j hj i hjb
            cases e3
            omega
      · simp only [if_neg e2]
        exact h.2 j k hj hk hjk
/-- a slice lies behind block tb, apart from the ten rows -/
def Sep (W : World) (tb : Nat) (vs : Nat → Value) (v : Value) : Prop := ∀ b, blkV v = some b → (tb < b ∧ b < W.heap.size) ∧ ∀ k, k < 10 → (vs k).ownBlock ≠ some b
theorem Sep.call {W w1 : World} {tb : Nat} {vs : Nat → Value} {v : Value} (h : Sep W tb vs v) (hz : W.heap.size ≤ w1.heap.size) : Sep w1 tb vs v := fun b hb => ⟨⟨(h b hb).1.1, Nat.lt_of_lt_of_le (h b hb).1.2 hz⟩, (h b hb).2⟩
theorem Sep.take {W w1 : World} {tb B : Nat} {vs : Nat → Value} {g : Nat → List Int} {v v' : Value} (h : Sep W tb vs v) (ht : TK W tb B vs g) (hz : W.heap.size ≤ w1.heap.size) (hn : NewOr W.heap.size w1 v v') : Sep w1 tb vs v' := by
  intro b hb
  rcases hn with e | e | ⟨c, e, h1, h2⟩
  · rw [e] at hb; cases hb
  · rw [e] at hb
    exact ⟨⟨(h b hb).1.1, Nat.lt_of_lt_of_le (h b hb).1.2 hz⟩, (h b hb).2⟩
  · rw [e] at hb
    obtain rfl : c = b := Option.some.inj hb
    have hl := ht.lt
    refine ⟨⟨by omega, h2⟩, fun k hk e2 => ?_⟩
    have := (World.ownsRow.lt (ht.1 k hk).2.2 c e2).2
    omega
theorem Sep.app {W w1 : World} {tb s : Nat} {vs : Nat → Value} {v v' : Value} (h : Sep W tb vs v) (hs : s < 10) (hz : W.heap.size ≤ w1.heap.size) (hn : v'.ownBlock = (vs s).ownBlock ∨ v'.ownBlock = some W.heap.size) : Sep w1 tb (fun k => if k = s then v' else vs k) v := by
  intro b hb
  obtain ⟨⟨h1, h2⟩, h3⟩ := h b hb
  refine ⟨⟨h1, Nat.lt_of_lt_of_le h2 hz⟩, fun k hk => ?_⟩
  by_cases e : k = s
  · subst e
    simp only [if_true]
    rcases hn with e | e
    · rw [e]; exact h3 k hk
    · rw [e]
      intro e2
      cases e2
      omega
  · simp only [if_neg e]
    exact h3 k hk
theorem Sep.nil (W : World) (tb : Nat) (vs : Nat → Value) : Sep W tb vs (.slice none 0 0) := fun b hb => by cases hb
end Go.Proofs.Ytpmabkegjdjodaa
