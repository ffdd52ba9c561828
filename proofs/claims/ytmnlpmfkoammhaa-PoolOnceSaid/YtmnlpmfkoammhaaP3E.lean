/- Contracts of layer 3, the document's: another cell at a place. -/
import Derived.Test.YtmnlpmfkoammhaaP3D
namespace Go.Proofs.Ytmnlpmfkoammhaa
open Go.RowKit
set_option linter.unusedVariables false
set_option linter.unusedSimpArgs false

theorem ownsRow_else {w w' : World} {B : Nat} {E : TypeId} {z n g cap : Nat} {xs : List Value} (h : w.ownsRow B E z (.slice (some ⟨g, 0, none⟩) n cap) n xs) (e : w'.heap[g]? = w.heap[g]?) : w'.ownsRow B E z (.slice (some ⟨g, 0, none⟩) n cap) n xs := by
  obtain ⟨h1, h2⟩ := h
  refine ⟨h1, ?_⟩
  rcases h2 with h2 | ⟨g', cap', cur, hv, hB, hg, r⟩
  · exact .inl h2
  · simp only [Value.slice.injEq, Option.some.injEq, Addr.mk.injEq, and_true, true_and] at hv
    obtain ⟨rfl, rfl⟩ := hv
    exact .inr ⟨g, cap, cur, rfl, hB, e.trans hg, r⟩
theorem OwnC.mono {E : TypeId} {w : World} {B B' : Nat} {v : Value} {l : List Cel} (h : OwnC E w B v l) (hB : B' ≤ B) : OwnC E w B' v l := by
  obtain ⟨h1, h2⟩ := h
  refine ⟨h1, ?_⟩
  rcases h2 with h2 | ⟨g, cap, cur, hv, hb, r⟩
  · exact .inl h2
  · exact .inr ⟨g, cap, cur, hv, Nat.le_trans hB hb, r⟩
theorem OwnC.call {E : TypeId} {W w1 : World} {B : Nat} {v : Value} {l : List Cel} (h : OwnC E W B v l) (hb : Below W.heap.size W w1) : OwnC E w1 B v l := World.ownsRow.call' h hb
/-- a store in a block that is older than what the call owns -/
theorem ownsRow_below {w : World} {B : Nat} {E : TypeId} {z n : Nat} {v : Value} {xs : List Value} (h : w.ownsRow B E z v n xs) (a : Addr) (u : Value) (hb : a.block < B) : (w.setCell a u).ownsRow B E z v n xs := by
  obtain ⟨h1, h2⟩ := h
  refine ⟨h1, ?_⟩
  rcases h2 with h2 | ⟨g, cap, cur, hv, hB, hg, r⟩
  · exact .inl h2
  · exact .inr ⟨g, cap, cur, hv, hB, (heap_setCell_other _ _ _ _ (by omega)).trans hg, r⟩
theorem OwnC.below {E : TypeId} {w : World} {B : Nat} {v : Value} {l : List Cel} (h : OwnC E w B v l) (a : Addr) (u : Value) (hb : a.block < B) : OwnC E (w.setCell a u) B v l := ownsRow_below h a u hb
theorem OwnI.below {w : World} {B : Nat} {v : Value} {l : List Int} (h : OwnI w B v l) (a : Addr) (u : Value) (hb : a.block < B) : OwnI (w.setCell a u) B v l := ownsRow_below h a u hb
/-- there is room for what a slice says that it has -/
def CapOk (v : Value) : Prop := ∃ p n c, v = .slice p n c ∧ n ≤ c ∧ (p = none → n = 0 ∧ c = 0) ∧ ∀ a, p = some a → ∃ b o, a = ⟨b, o, none⟩
theorem OwnI.capOk {w : World} {B : Nat} {v : Value} {l : List Int} (h : OwnI w B v l) : CapOk v := by
  rcases h.2 with ⟨hv, hn⟩ | ⟨g, cap, cur, hv, hB, hg, r⟩
  · exact ⟨none, 0, 0, hv, Nat.le_refl _, (fun _ => ⟨rfl, rfl⟩), (fun a h => by cases h)⟩
  · exact ⟨_, _, _, hv, r.1, (fun h => by cases h), (fun a h => by cases h; exact ⟨_, _, rfl⟩)⟩
theorem OwnC.shape {E : TypeId} {w : World} {B : Nat} {v : Value} {l : List Cel} (h : OwnC E w B v l) : ∃ ao cap, v = .slice ao l.length cap := by
  rcases h.2 with ⟨hv, hn⟩ | ⟨g, cap, cur, hv, hB, hg, r⟩
  · exact ⟨none, 0, by rw [hv, hn]⟩
  · exact ⟨_, _, hv⟩
theorem stopHere {p : Prop} (h : p ∧ True) : p := h.1

set_option maxRecDepth 100000 in
set_option maxHeartbeats 2000000 in
theorem refwith_any (vc vf : Value) (l : List Cel) (k : Nat) (c : Cel) (w : World) (hv : IsC w vc l) (hvf : ∃ p m c, vf = .slice p m c) (hk : k < l.length) (hl : l.length ≤ 1024) :
    Calls Try.prog 33 #[.agg #[vc, vf], .int .i64 k, celV c] w fun e w' => ∃ vc', e = .returned (.agg #[vc', vf]) ∧ OwnC 64 w' w.heap.size vc' (l.set k c) ∧ Below w.heap.size w w' := by
  obtain ⟨pf, mf, cf, rfl⟩ := hvf
  have hv0 := hv
  obtain ⟨p, cap, rfl, hp⟩ := hv
  obtain ⟨b, off, rfl, -⟩ := hp k hk
  clear hp
  have Hv := Lib.hid hv0
  clear hv0
  obtain ⟨i0, hi, hz0, hz1, hz2⟩ : ∃ i, Try.prog.info? 64 = some i ∧ i.zero = some (.agg #[.int .i64 0, .bool false, .int .i64 0]) ∧ i.size = 3 ∧ i.bytes = 24 := by
    have := info_cel
    cases hi : Try.prog.info? 64 with
    | none => rw [hi] at this; simp at this
    | some i => rw [hi] at this; simp at this; exact ⟨i, rfl, this.1, this.2.1, this.2.2⟩
  have hkl : (k : Int) < l.length := by omega
  go_enter Try.func33, Try.ntmps33
  go_wp2_with (at_builtin; (conv => skip); refine stopHere ?_)
  refine And.intro ?_ trivial
  refine wpList_append_own _ rfl _ _ 22 rfl (w.heap.size + 3) 64 i0 (.agg #[.int .i64 0, .bool false, .int .i64 0]) 3 24 Try.underlying22 hi hz0 hz1 hz2 rfl (by decide) _ 0 [] rfl (World.ownsRow_nil _ _ _ _) ⟨b, off, none⟩ l.length cap (celF l) rfl (celF_len l) (fun j u hu => by rw [Addr.add_lit]; exact IsC.flat (Hv.out.call (by (repeat (first | (with_reducible exact Below.refl _ _) | ((with_reducible refine below_alloc ?_ ?_ _); · (first | omega | (simp; done) | (simp; omega))) | ((with_reducible refine below_setCell ?_ ?_ _); · (first | omega | (simp; done) | (simp; omega))) | (with_reducible refine Below.drew ?_) | (with_reducible refine below_drewN ?_ _) | ((with_reducible refine below_call (by assumption) ?_ ?_); · (first | omega | (simp; done) | (simp; omega))))))) j u hu) (celF_one l) (by unfold maxLen; omega) (by omega) (by simp) ?_
  intro v' w2 hown' hgr _
  obtain ⟨W, hW⟩ : ∃ W, ((w.alloc (.cells #[.slice (some ⟨b, off, none⟩) l.length cap, .slice pf mf cf] 25)).alloc (.cells #[.int .i64 c.1, .bool c.2.1, .int .i64 c.2.2] 64)).alloc (.cells #[.slice none 0 0, .slice none 0 0] 25) = W := ⟨_, rfl⟩
  have hB : Below w.heap.size w W := by rw [← hW]; (repeat (first | (with_reducible exact Below.refl _ _) | ((with_reducible refine below_alloc ?_ ?_ _); · (first | omega | (simp; done) | (simp; omega))) | ((with_reducible refine below_setCell ?_ ?_ _); · (first | omega | (simp; done) | (simp; omega))) | (with_reducible refine Below.drew ?_) | (with_reducible refine below_drewN ?_ _) | ((with_reducible refine below_call (by assumption) ?_ ?_); · (first | omega | (simp; done) | (simp; omega)))))
  have hsz : W.heap.size = w.heap.size + 3 := by rw [← hW]; simp
  have hA : W.heap[w.heap.size]? = some (.cells #[.slice (some ⟨b, off, none⟩) l.length cap, .slice pf mf cf] 25) := by
    rw [← hW, heap_alloc_old _ _ (by simp; omega), heap_alloc2_old]
  have hC : W.heap[w.heap.size + 1]? = some (.cells #[.int .i64 c.1, .bool c.2.1, .int .i64 c.2.2] 64) := by
    rw [← hW, heap_alloc_old _ _ (by simp), heap_alloc2_new]
  have hD : W.heap[w.heap.size + 1 + 1]? = some (.cells #[.slice none 0 0, .slice none 0 0] 25) := by
    rw [← hW]; have := heap_alloc_new ((w.alloc (.cells #[.slice (some ⟨b, off, none⟩) l.length cap, .slice pf mf cf] 25)).alloc (.cells #[.int .i64 c.1, .bool c.2.1, .int .i64 c.2.2] 64)) (.cells #[.slice none 0 0, .slice none 0 0] 25)
    simpa only [World.size_alloc] using this
  have hgr' : W.grownBy w2 none := by rw [← hW]; exact hgr
  have hb1 : Below W.heap.size W w2 := (Below.refl _ _).grown hgr' (Nat.le_refl _) (fun q hq => by cases hq)
  have hown : w2.ownsRow (w.heap.size + 3) 64 3 v' l.length (celF l) := by simpa using hown'
  rw [hW] at hgr
  clear hown' hW hgr hgr'
  have hz2 := hb1.size
  have hA2 := (hb1.block w.heap.size (by omega)).trans hA
  have hC2 := (hb1.block (w.heap.size + 1) (by omega)).trans hC
  have hD2 := (hb1.block (w.heap.size + 1 + 1) (by omega)).trans hD
  have hB2 : Below w.heap.size w w2 := by (repeat (first | (with_reducible exact Below.refl _ _) | ((with_reducible refine below_alloc ?_ ?_ _); · (first | omega | (simp; done) | (simp; omega))) | ((with_reducible refine below_setCell ?_ ?_ _); · (first | omega | (simp; done) | (simp; omega))) | (with_reducible refine Below.drew ?_) | (with_reducible refine below_drewN ?_ _) | ((with_reducible refine below_call (by assumption) ?_ ?_); · (first | omega | (simp; done) | (simp; omega)))))
  have a0 := Lib.cell_of_heap hA2 0
  have a1 := Lib.cell_of_heap hA2 1
  have fA := Lib.frozen_of_heap hA2
  have d0 := Lib.cell_of_heap hC2 0
  have d1 := Lib.cell_of_heap hC2 1
  have d2 := Lib.cell_of_heap hC2 2
  have g0 := Lib.cell_of_heap hD2 0
  have g1 := Lib.cell_of_heap hD2 1
  have fD := Lib.frozen_of_heap hD2
  simp at a0 a1 d0 d1 d2 g0 g1
  have HB := Lib.hid (And.intro hb1 hB2)
  clear hA hC hD hA2 hC2 hD2 hB hb1 hB2
  rcases hown.2 with ⟨hv, hn⟩ | ⟨g, cap', cur, hv, hBg, hg, hr⟩
  · omega
  subst hv
  have hne0 : g ≠ w.heap.size := by omega
  have hne0' : w.heap.size ≠ g := by omega
  have hne1 : g ≠ w.heap.size + 1 := by omega
  have hne1' : w.heap.size + 1 ≠ g := by omega
  have hne2 : g ≠ w.heap.size + 1 + 1 := by omega
  have hne2' : w.heap.size + 1 + 1 ≠ g := by omega
  have hgz : g < w2.heap.size := (Array.getElem?_eq_some_iff.1 hg).1
  have h0 := (hown.cellAt (k * 3) (by omega)).trans (celF_get l k hk).1
  have h1 := (hown.cellAt (k * 3 + 1) (by omega)).trans (celF_get l k hk).2.1
  have h2 := (hown.cellAt (k * 3 + 2) (by omega)).trans (celF_get l k hk).2.2
  have fg := Lib.frozen_of_heap hg
  have HO := Lib.hid hown
  clear hg hr hown
  go_wp2
  refine bodyPost_ret (v := .agg #[.slice (some ⟨g, 0, none⟩) l.length cap', .slice pf mf cf]) (by simp [results, Try.results33, go_sem, g0, g1, hne0, hne2]) rfl ⟨_, rfl, ?_, ?_⟩
  · have s1 := (HO.out.stored (k * 3) (.int .i64 c.1)).1
    have s2 := (s1.stored (k * 3 + 1) (.bool c.2.1)).1
    have s3 := (s2.stored (k * 3 + 2) (.int .i64 c.2.2)).1
    rw [celF_set l c k hk] at s3
    have el : l.length = (l.set k c).length := by simp
    refine OwnC.mono (B := w.heap.size + 3) ?_ (by omega)
    show World.ownsRow _ _ _ _ _ _ _
    rw [← el]
    exact ownsRow_else s3 (by rw [heap_setCell_other _ _ _ _ (by simpa using hne2), heap_setCell_other _ _ _ _ (by simpa using hne2), heap_setCell_other _ _ _ _ (by simpa using hne0)])
  · have hB2 := HB.out.2
    (repeat (first | (with_reducible exact Below.refl _ _) | ((with_reducible refine below_alloc ?_ ?_ _); · (first | omega | (simp; done) | (simp; omega))) | ((with_reducible refine below_setCell ?_ ?_ _); · (first | omega | (simp; done) | (simp; omega))) | (with_reducible refine Below.drew ?_) | (with_reducible refine below_drewN ?_ _) | ((with_reducible refine below_call (by assumption) ?_ ?_); · (first | omega | (simp; done) | (simp; omega)))))
end Go.Proofs.Ytmnlpmfkoammhaa
