/- Layer 8: two states together: the program's. -/
import Derived.Test.YtkohdfmhigejoaaG8H
namespace Go.Proofs.Ytkohdfmhigejoaa
open Go.RowKit
set_option linter.unusedVariables false
set_option linter.unusedSimpArgs false

/-- what Merge tells -/
def mrgE (c a0 a1 a2 a3 a4 a5 d b0 b1 b2 b3 b4 b5 : Int) : Int :=
  if chkN c a0 a1 a2 a3 a4 a5 = 0 then (if chkN d b0 b1 b2 b3 b4 b5 = 0 then (if c = d then (if c < sumN a0 a1 a2 a3 a4 a5 + sumN b0 b1 b2 b3 b4 b5 then 7 else 0) else 2) else chkN d b0 b1 b2 b3 b4 b5) else chkN c a0 a1 a2 a3 a4 a5
/-- a number of the answer: none, if there is an error -/
def mo (E x : Int) : Int := if E = 0 then x else 0
abbrev mrgV (E c a0 a1 a2 a3 a4 a5 b0 b1 b2 b3 b4 b5 : Int) : Value := stV (mo E c) (mo E (a0 + b0)) (mo E (a1 + b1)) (mo E (a2 + b2)) (mo E (a3 + b3)) (mo E (a4 + b4)) (mo E (a5 + b5))
theorem mrgV_no {E : Int} (h : ¬ E = 0) (c a0 a1 a2 a3 a4 a5 b0 b1 b2 b3 b4 b5 : Int) : mrgV E c a0 a1 a2 a3 a4 a5 b0 b1 b2 b3 b4 b5 = stV 0 0 0 0 0 0 0 := by
  unfold mrgV mo; simp [h]
theorem mrgV_yes (c a0 a1 a2 a3 a4 a5 b0 b1 b2 b3 b4 b5 : Int) : mrgV 0 c a0 a1 a2 a3 a4 a5 b0 b1 b2 b3 b4 b5 = stV c (a0 + b0) (a1 + b1) (a2 + b2) (a3 + b3) (a4 + b4) (a5 + b5) := by
  unfold mrgV mo; simp
theorem sumN_add (a0 a1 a2 a3 a4 a5 b0 b1 b2 b3 b4 b5 : Int) : sumN (a0 + b0) (a1 + b1) (a2 + b2) (a3 + b3) (a4 + b4) (a5 + b5) = sumN a0 a1 a2 a3 a4 a5 + sumN b0 b1 b2 b3 b4 b5 := by
  unfold sumN; omega
theorem Smal.add {a0 a1 a2 a3 a4 a5 b0 b1 b2 b3 b4 b5 : Int} (h : Smal 4096 a0 a1 a2 a3 a4 a5) (h' : Smal 4096 b0 b1 b2 b3 b4 b5) : Smal 8192 (a0 + b0) (a1 + b1) (a2 + b2) (a3 + b3) (a4 + b4) (a5 + b5) := by
  unfold Smal at h h' ⊢; omega
theorem add_steps {a0 a1 a2 a3 a4 a5 b0 b1 b2 b3 b4 b5 : Int} (h : Smal 4096 a0 a1 a2 a3 a4 a5) (h' : Smal 4096 b0 b1 b2 b3 b4 b5) :
    IntKind.i64.wrap (a0 + b0) = a0 + b0 ∧ IntKind.i64.wrap (a1 + b1) = a1 + b1 ∧ IntKind.i64.wrap (a2 + b2) = a2 + b2 ∧ IntKind.i64.wrap (a3 + b3) = a3 + b3 ∧ IntKind.i64.wrap (a4 + b4) = a4 + b4 ∧ IntKind.i64.wrap (a5 + b5) = a5 + b5 := by
  unfold Smal at h h'
  refine ⟨?_, ?_, ?_, ?_, ?_, ?_⟩ <;> exact IntWalk.i64_in _ (by omega)
/-- no cell of a block is frozen -/
def Fz (w : World) (b : Nat) : Prop := ∀ o, w.frozen? ⟨b, o, none⟩ = false
theorem Fz.call {W w1 : World} {b : Nat} (h : Fz W b) (hl : b < W.heap.size) (hb : Below W.heap.size W w1) : Fz w1 b := fun o => (hb.frozen (p := ⟨b, o, none⟩) hl).trans (h o)
theorem Fz.set {w : World} {b : Nat} (h : Fz w b) (p : Addr) (v : Value) : Fz (w.setCell p v) b := fun o => by simpa using h o
theorem Bx7.lt {w : World} {b : Nat} {c a0 a1 a2 a3 a4 a5 : Int} (h : Bx7 w b c a0 a1 a2 a3 a4 a5) : b < w.heap.size := World.block_lt_of_cell? _ _ h.1
theorem Bx7.far {w : World} {b : Nat} {c a0 a1 a2 a3 a4 a5 : Int} (h : Bx7 w b c a0 a1 a2 a3 a4 a5) {p : Addr} (hp : p.block ≠ b) (v : Value) : Bx7 (w.setCell p v) b c a0 a1 a2 a3 a4 a5 := by
  have hq : ∀ o, p ≠ ⟨b, o, none⟩ := fun o e => hp (by rw [e])
  obtain ⟨h0, h1, h2, h3, h4, h5, h6⟩ := h
  refine ⟨?_, ?_, ?_, ?_, ?_, ?_, ?_⟩ <;> (rw [World.cell?_setCell_other _ _ _ _ (hq _)]; assumption)
theorem Bx7.set0 {w : World} {b : Nat} {c a0 a1 a2 a3 a4 a5 : Int} (h : Bx7 w b c a0 a1 a2 a3 a4 a5) (x : Int) : Bx7 (w.setCell ⟨b, 1, none⟩ (.int .i64 x)) b c x a1 a2 a3 a4 a5 := by
  obtain ⟨h0, h1, h2, h3, h4, h5, h6⟩ := h
  exact ⟨(World.cell?_setCell_other _ _ _ _ (by simp)).trans h0, World.cell?_setCell_same _ _ _ h1, (World.cell?_setCell_other _ _ _ _ (by simp)).trans h2, (World.cell?_setCell_other _ _ _ _ (by simp)).trans h3, (World.cell?_setCell_other _ _ _ _ (by simp)).trans h4, (World.cell?_setCell_other _ _ _ _ (by simp)).trans h5, (World.cell?_setCell_other _ _ _ _ (by simp)).trans h6⟩
theorem Bx7.set1 {w : World} {b : Nat} {c a0 a1 a2 a3 a4 a5 : Int} (h : Bx7 w b c a0 a1 a2 a3 a4 a5) (x : Int) : Bx7 (w.setCell ⟨b, 2, none⟩ (.int .i64 x)) b c a0 x a2 a3 a4 a5 := by
  obtain ⟨h0, h1, h2, h3, h4, h5, h6⟩ := h
  exact ⟨(World.cell?_setCell_other _ _ _ _ (by simp)).trans h0, (World.cell?_setCell_other _ _ _ _ (by simp)).trans h1, World.cell?_setCell_same _ _ _ h2, (World.cell?_setCell_other _ _ _ _ (by simp)).trans h3, (World.cell?_setCell_other _ _ _ _ (by simp)).trans h4, (World.cell?_setCell_other _ _ _ _ (by simp)).trans h5, (World.cell?_setCell_other _ _ _ _ (by simp)).trans h6⟩
theorem Bx7.set2 {w : World} {b : Nat} {c a0 a1 a2 a3 a4 a5 : Int} (h : Bx7 w b c a0 a1 a2 a3 a4 a5) (x : Int) : Bx7 (w.setCell ⟨b, 3, none⟩ (.int .i64 x)) b c a0 a1 x a3 a4 a5 := by
  obtain ⟨h0, h1, h2, h3, h4, h5, h6⟩ := h
  exact ⟨(World.cell?_setCell_other _ _ _ _ (by simp)).trans h0, (World.cell?_setCell_other _ _ _ _ (by simp)).trans h1, (World.cell?_setCell_other _ _ _ _ (by simp)).trans h2, World.cell?_setCell_same _ _ _ h3, (World.cell?_setCell_other _ _ _ _ (by simp)).trans h4, (World.cell?_setCell_other _ _ _ _ (by simp)).trans h5, (World.cell?_setCell_other _ _ _ _ (by simp)).trans h6⟩
theorem Bx7.set3 {w : World} {b : Nat} {c a0 a1 a2 a3 a4 a5 : Int} (h : Bx7 w b c a0 a1 a2 a3 a4 a5) (x : Int) : Bx7 (w.setCell ⟨b, 4, none⟩ (.int .i64 x)) b c a0 a1 a2 x a4 a5 := by
  obtain ⟨h0, h1, h2, h3, h4, h5, h6⟩ := h
  exact ⟨(World.cell?_setCell_other _ _ _ _ (by simp)).trans h0, (World.cell?_setCell_other _ _ _ _ (by simp)).trans h1, (World.cell?_setCell_other _ _ _ _ (by simp)).trans h2, (World.cell?_setCell_other _ _ _ _ (by simp)).trans h3, World.cell?_setCell_same _ _ _ h4, (World.cell?_setCell_other _ _ _ _ (by simp)).trans h5, (World.cell?_setCell_other _ _ _ _ (by simp)).trans h6⟩
theorem Bx7.set4 {w : World} {b : Nat} {c a0 a1 a2 a3 a4 a5 : Int} (h : Bx7 w b c a0 a1 a2 a3 a4 a5) (x : Int) : Bx7 (w.setCell ⟨b, 5, none⟩ (.int .i64 x)) b c a0 a1 a2 a3 x a5 := by
  obtain ⟨h0, h1, h2, h3, h4, h5, h6⟩ := h
  exact ⟨(World.cell?_setCell_other _ _ _ _ (by simp)).trans h0, (World.cell?_setCell_other _ _ _ _ (by simp)).trans h1, (World.cell?_setCell_other _ _ _ _ (by simp)).trans h2, (World.cell?_setCell_other _ _ _ _ (by simp)).trans h3, (World.cell?_setCell_other _ _ _ _ (by simp)).trans h4, World.cell?_setCell_same _ _ _ h5, (World.cell?_setCell_other _ _ _ _ (by simp)).trans h6⟩
theorem Bx7.set5 {w : World} {b : Nat} {c a0 a1 a2 a3 a4 a5 : Int} (h : Bx7 w b c a0 a1 a2 a3 a4 a5) (x : Int) : Bx7 (w.setCell ⟨b, 6, none⟩ (.int .i64 x)) b c a0 a1 a2 a3 a4 x := by
  obtain ⟨h0, h1, h2, h3, h4, h5, h6⟩ := h
  exact ⟨(World.cell?_setCell_other _ _ _ _ (by simp)).trans h0, (World.cell?_setCell_other _ _ _ _ (by simp)).trans h1, (World.cell?_setCell_other _ _ _ _ (by simp)).trans h2, (World.cell?_setCell_other _ _ _ _ (by simp)).trans h3, (World.cell?_setCell_other _ _ _ _ (by simp)).trans h4, (World.cell?_setCell_other _ _ _ _ (by simp)).trans h5, World.cell?_setCell_same _ _ _ h6⟩
set_option maxRecDepth 100000 in
set_option maxHeartbeats 4000000 in
theorem merge_any (c a0 a1 a2 a3 a4 a5 d b0 b1 b2 b3 b4 b5 : Int) (w : World) :
    Calls Try.prog 11 #[stV c a0 a1 a2 a3 a4 a5, stV d b0 b1 b2 b3 b4 b5] w fun e w' => e = .returned (.tuple #[mrgV (mrgE c a0 a1 a2 a3 a4 a5 d b0 b1 b2 b3 b4 b5) c a0 a1 a2 a3 a4 a5 b0 b1 b2 b3 b4 b5, .int .i64 (mrgE c a0 a1 a2 a3 a4 a5 d b0 b1 b2 b3 b4 b5)]) ∧ Below w.heap.size w w' := by
  have ca := fun W => check_any c a0 a1 a2 a3 a4 a5 W
  have cb := fun W => check_any d b0 b1 b2 b3 b4 b5 W
  by_cases ha : chkN c a0 a1 a2 a3 a4 a5 = 0
  · by_cases hb : chkN d b0 b1 b2 b3 b4 b5 = 0
    · rw [ha] at ca
      rw [hb] at cb
      by_cases hcd : c = d
      · subst hcd
        have hsa := (chk0 ha).1
        have hsb := (chk0 hb).1
        obtain ⟨s0, s1, s2, s3, s4, s5⟩ := add_steps hsa hsb
        obtain ⟨i0, i1, i2, i3, i4, i5⟩ := index_at b0 b1 b2 b3 b4 b5
        have hS := Lib.hid (hsa.add hsb)
        have cs := Lib.hid (fun W => charged_any c (a0 + b0) (a1 + b1) (a2 + b2) (a3 + b3) (a4 + b4) (a5 + b5) W hS.out)
        have HE : mrgE c a0 a1 a2 a3 a4 a5 c b0 b1 b2 b3 b4 b5 = if c < sumN (a0 + b0) (a1 + b1) (a2 + b2) (a3 + b3) (a4 + b4) (a5 + b5) then 7 else 0 := by
          unfold mrgE; rw [if_pos ha, if_pos hb, if_pos rfl, sumN_add]
        rw [HE]
        clear ha hb hsa hsb HE
        simp only [stV, manyV] at *
        go_enter Try.func11, Try.ntmps11
        go_wp2_with fail
        refine (ca _).mono ?_; rintro e w1 ⟨rfl, hb1⟩
        obtain ⟨hk1, hf1, hz1⟩ := bcellN (n := w.heap.size + 3) (by (try simp only [World.size_drew, World.size_alloc, World.size_setCell]); omega) hb1; have hz1_0 : w.heap.size < w1.heap.size := (by omega); have hz1_1 : w.heap.size + 1 < w1.heap.size := (by omega); have hz1_2 : w.heap.size + 2 < w1.heap.size := (by omega)
        go_wp2_with fail
        refine (cb _).mono ?_; rintro e w2 ⟨rfl, hb2⟩
        obtain ⟨hk2, hf2, hz2⟩ := bcellN (n := w.heap.size + 3) (by (try simp only [World.size_drew, World.size_alloc, World.size_setCell]); omega) hb2; have hz2_0 : w.heap.size < w2.heap.size := (by omega); have hz2_1 : w.heap.size + 1 < w2.heap.size := (by omega); have hz2_2 : w.heap.size + 2 < w2.heap.size := (by omega)
        go_wp2_with fail
        refine gen_world (F := fun wt => Bx7 wt (w.heap.size) c a0 a1 a2 a3 a4 a5 ∧ Bx7 wt (w.heap.size + 1) c b0 b1 b2 b3 b4 b5 ∧ Bx7 wt (w.heap.size + 1 + 1) 0 0 0 0 0 0 0 ∧ Fz wt (w.heap.size) ∧ Fz wt (w.heap.size + 1 + 1) ∧ Below w.heap.size w wt) ⟨by simp [Bx7, go_sem, hk1, hk2], by simp [Bx7, go_sem, hk1, hk2], by simp [Bx7, go_sem, hk1, hk2], fun o => (hf2 _ o (by omega)).trans ((hf1 _ o (by omega)).trans (by simp [go_sem])), fun o => (hf2 _ o (by omega)).trans ((hf1 _ o (by omega)).trans (by simp [go_sem])), by (repeat (first | (with_reducible exact Below.refl _ _) | ((with_reducible refine below_alloc ?_ ?_ _); · (first | omega | (simp; done) | (simp; omega))) | ((with_reducible refine below_setCell ?_ ?_ _); · (first | omega | (simp; done) | (simp; omega))) | (with_reducible refine Below.drew ?_) | (with_reducible refine below_drewN ?_ _) | ((with_reducible refine below_call (by assumption) ?_ ?_); · (first | omega | (simp; done) | (simp; omega)))))⟩ (fun wt0 hF => ?_)
        obtain ⟨X, Y, Z, FX, FZ, hB⟩ := hF
        clear hk1 hf1 hk2 hf2 hb1 hb2 hz1 hz2 hz1_0 hz1_1 hz1_2 hz2_0 hz2_1 hz2_2 w1 w2 ca cb
        have HY := Lib.hid Y; have HZ := Lib.hid Z; have HFZ := Lib.hid FZ
        clear Y Z FZ
        refine wp_loop_rounds 7 ?_
        rw [rounds_succ]
        obtain ⟨x0, x1, x2, x3, x4, x5, x6⟩ := id X
        have fx : wt0.frozen? ⟨w.heap.size, 1, none⟩ = false := FX _
        have HX := Lib.hid X; have HFX := Lib.hid FX
        clear X FX
        go_wp2_with fail
        clear x0 x1 x2 x3 x4 x5 x6 fx
        rw [rounds_succ]
        refine gen_world (F := fun wt => Bx7 wt (w.heap.size) c (a0 + b0) a1 a2 a3 a4 a5 ∧ Bx7 wt (w.heap.size + 1) c b0 b1 b2 b3 b4 b5 ∧ Bx7 wt (w.heap.size + 1 + 1) 0 0 0 0 0 0 0 ∧ Fz wt (w.heap.size) ∧ Fz wt (w.heap.size + 1 + 1) ∧ Below w.heap.size w wt) ⟨HX.out.set0 _, HY.out.far (by first | (simp; done) | (simp; omega)) _, HZ.out.far (by first | (simp; done) | (simp; omega)) _, HFX.out.set _ _, HFZ.out.set _ _, by (repeat (first | (with_reducible exact Below.refl _ _) | ((with_reducible refine below_alloc ?_ ?_ _); · (first | omega | (simp; done) | (simp; omega))) | ((with_reducible refine below_setCell ?_ ?_ _); · (first | omega | (simp; done) | (simp; omega))) | (with_reducible refine Below.drew ?_) | (with_reducible refine below_drewN ?_ _) | ((with_reducible refine below_call (by assumption) ?_ ?_); · (first | omega | (simp; done) | (simp; omega)))))⟩ (fun wt1 hF => ?_)
        rw [← rounds_succ]
        obtain ⟨X, Y, Z, FX, FZ, hB2⟩ := hF
        clear HX HY HZ HFX HFZ hB
        have hB := hB2
        clear hB2
        have HY := Lib.hid Y; have HZ := Lib.hid Z; have HFZ := Lib.hid FZ
        clear Y Z FZ
        rw [rounds_succ]
        obtain ⟨x0, x1, x2, x3, x4, x5, x6⟩ := id X
        have fx : wt1.frozen? ⟨w.heap.size, 2, none⟩ = false := FX _
        have HX := Lib.hid X; have HFX := Lib.hid FX
        clear X FX
        go_wp2_with fail
        clear x0 x1 x2 x3 x4 x5 x6 fx
        rw [rounds_succ]
        refine gen_world (F := fun wt => Bx7 wt (w.heap.size) c (a0 + b0) (a1 + b1) a2 a3 a4 a5 ∧ Bx7 wt (w.heap.size + 1) c b0 b1 b2 b3 b4 b5 ∧ Bx7 wt (w.heap.size + 1 + 1) 0 0 0 0 0 0 0 ∧ Fz wt (w.heap.size) ∧ Fz wt (w.heap.size + 1 + 1) ∧ Below w.heap.size w wt) ⟨HX.out.set1 _, HY.out.far (by first | (simp; done) | (simp; omega)) _, HZ.out.far (by first | (simp; done) | (simp; omega)) _, HFX.out.set _ _, HFZ.out.set _ _, by (repeat (first | (with_reducible exact Below.refl _ _) | ((with_reducible refine below_alloc ?_ ?_ _); · (first | omega | (simp; done) | (simp; omega))) | ((with_reducible refine below_setCell ?_ ?_ _); · (first | omega | (simp; done) | (simp; omega))) | (with_reducible refine Below.drew ?_) | (with_reducible refine below_drewN ?_ _) | ((with_reducible refine below_call (by assumption) ?_ ?_); · (first | omega | (simp; done) | (simp; omega)))))⟩ (fun wt2 hF => ?_)
        rw [← rounds_succ]
        obtain ⟨X, Y, Z, FX, FZ, hB2⟩ := hF
        clear HX HY HZ HFX HFZ hB
        have hB := hB2
        clear hB2
        have HY := Lib.hid Y; have HZ := Lib.hid Z; have HFZ := Lib.hid FZ
        clear Y Z FZ
        rw [rounds_succ]
        obtain ⟨x0, x1, x2, x3, x4, x5, x6⟩ := id X
        have fx : wt2.frozen? ⟨w.heap.size, 3, none⟩ = false := FX _
        have HX := Lib.hid X; have HFX := Lib.hid FX
        clear X FX
        go_wp2_with fail
        clear x0 x1 x2 x3 x4 x5 x6 fx
        rw [rounds_succ]
        refine gen_world (F := fun wt => Bx7 wt (w.heap.size) c (a0 + b0) (a1 + b1) (a2 + b2) a3 a4 a5 ∧ Bx7 wt (w.heap.size + 1) c b0 b1 b2 b3 b4 b5 ∧ Bx7 wt (w.heap.size + 1 + 1) 0 0 0 0 0 0 0 ∧ Fz wt (w.heap.size) ∧ Fz wt (w.heap.size + 1 + 1) ∧ Below w.heap.size w wt) ⟨HX.out.set2 _, HY.out.far (by first | (simp; done) | (simp; omega)) _, HZ.out.far (by first | (simp; done) | (simp; omega)) _, HFX.out.set _ _, HFZ.out.set _ _, by (repeat (first | (with_reducible exact Below.refl _ _) | ((with_reducible refine below_alloc ?_ ?_ _); · (first | omega | (simp; done) | (simp; omega))) | ((with_reducible refine below_setCell ?_ ?_ _); · (first | omega | (simp; done) | (simp; omega))) | (with_reducible refine Below.drew ?_) | (with_reducible refine below_drewN ?_ _) | ((with_reducible refine below_call (by assumption) ?_ ?_); · (first | omega | (simp; done) | (simp; omega)))))⟩ (fun wt3 hF => ?_)
        rw [← rounds_succ]
        obtain ⟨X, Y, Z, FX, FZ, hB2⟩ := hF
        clear HX HY HZ HFX HFZ hB
        have hB := hB2
        clear hB2
        have HY := Lib.hid Y; have HZ := Lib.hid Z; have HFZ := Lib.hid FZ
        clear Y Z FZ
        rw [rounds_succ]
        obtain ⟨x0, x1, x2, x3, x4, x5, x6⟩ := id X
        have fx : wt3.frozen? ⟨w.heap.size, 4, none⟩ = false := FX _
        have HX := Lib.hid X; have HFX := Lib.hid FX
        clear X FX
        go_wp2_with fail
        clear x0 x1 x2 x3 x4 x5 x6 fx
        rw [rounds_succ]
        refine gen_world (F := fun wt => Bx7 wt (w.heap.size) c (a0 + b0) (a1 + b1) (a2 + b2) (a3 + b3) a4 a5 ∧ Bx7 wt (w.heap.size + 1) c b0 b1 b2 b3 b4 b5 ∧ Bx7 wt (w.heap.size + 1 + 1) 0 0 0 0 0 0 0 ∧ Fz wt (w.heap.size) ∧ Fz wt (w.heap.size + 1 + 1) ∧ Below w.heap.size w wt) ⟨HX.out.set3 _, HY.out.far (by first | (simp; done) | (simp; omega)) _, HZ.out.far (by first | (simp; done) | (simp; omega)) _, HFX.out.set _ _, HFZ.out.set _ _, by (repeat (first | (with_reducible exact Below.refl _ _) | ((with_reducible refine below_alloc ?_ ?_ _); · (first | omega | (simp; done) | (simp; omega))) | ((with_reducible refine below_setCell ?_ ?_ _); · (first | omega | (simp; done) | (simp; omega))) | (with_reducible refine Below.drew ?_) | (with_reducible refine below_drewN ?_ _) | ((with_reducible refine below_call (by assumption) ?_ ?_); · (first | omega | (simp; done) | (simp; omega)))))⟩ (fun wt4 hF => ?_)
        rw [← rounds_succ]
        obtain ⟨X, Y, Z, FX, FZ, hB2⟩ := hF
        clear HX HY HZ HFX HFZ hB
        have hB := hB2
        clear hB2
        have HY := Lib.hid Y; have HZ := Lib.hid Z; have HFZ := Lib.hid FZ
        clear Y Z FZ
        rw [rounds_succ]
        obtain ⟨x0, x1, x2, x3, x4, x5, x6⟩ := id X
        have fx : wt4.frozen? ⟨w.heap.size, 5, none⟩ = false := FX _
        have HX := Lib.hid X; have HFX := Lib.hid FX
        clear X FX
        go_wp2_with fail
        clear x0 x1 x2 x3 x4 x5 x6 fx
        rw [rounds_succ]
        refine gen_world (F := fun wt => Bx7 wt (w.heap.size) c (a0 + b0) (a1 + b1) (a2 + b2) (a3 + b3) (a4 + b4) a5 ∧ Bx7 wt (w.heap.size + 1) c b0 b1 b2 b3 b4 b5 ∧ Bx7 wt (w.heap.size + 1 + 1) 0 0 0 0 0 0 0 ∧ Fz wt (w.heap.size) ∧ Fz wt (w.heap.size + 1 + 1) ∧ Below w.heap.size w wt) ⟨HX.out.set4 _, HY.out.far (by first | (simp; done) | (simp; omega)) _, HZ.out.far (by first | (simp; done) | (simp; omega)) _, HFX.out.set _ _, HFZ.out.set _ _, by (repeat (first | (with_reducible exact Below.refl _ _) | ((with_reducible refine below_alloc ?_ ?_ _); · (first | omega | (simp; done) | (simp; omega))) | ((with_reducible refine below_setCell ?_ ?_ _); · (first | omega | (simp; done) | (simp; omega))) | (with_reducible refine Below.drew ?_) | (with_reducible refine below_drewN ?_ _) | ((with_reducible refine below_call (by assumption) ?_ ?_); · (first | omega | (simp; done) | (simp; omega)))))⟩ (fun wt5 hF => ?_)
        rw [← rounds_succ]
        obtain ⟨X, Y, Z, FX, FZ, hB2⟩ := hF
        clear HX HY HZ HFX HFZ hB
        have hB := hB2
        clear hB2
        have HY := Lib.hid Y; have HZ := Lib.hid Z; have HFZ := Lib.hid FZ
        clear Y Z FZ
        rw [rounds_succ]
        obtain ⟨x0, x1, x2, x3, x4, x5, x6⟩ := id X
        have fx : wt5.frozen? ⟨w.heap.size, 6, none⟩ = false := FX _
        have HX := Lib.hid X; have HFX := Lib.hid FX
        clear X FX
        go_wp2_with fail
        clear x0 x1 x2 x3 x4 x5 x6 fx
        refine gen_world (F := fun wt => Bx7 wt (w.heap.size) c (a0 + b0) (a1 + b1) (a2 + b2) (a3 + b3) (a4 + b4) (a5 + b5) ∧ Bx7 wt (w.heap.size + 1) c b0 b1 b2 b3 b4 b5 ∧ Bx7 wt (w.heap.size + 1 + 1) 0 0 0 0 0 0 0 ∧ Fz wt (w.heap.size) ∧ Fz wt (w.heap.size + 1 + 1) ∧ Below w.heap.size w wt) ⟨HX.out.set5 _, HY.out.far (by first | (simp; done) | (simp; omega)) _, HZ.out.far (by first | (simp; done) | (simp; omega)) _, HFX.out.set _ _, HFZ.out.set _ _, by (repeat (first | (with_reducible exact Below.refl _ _) | ((with_reducible refine below_alloc ?_ ?_ _); · (first | omega | (simp; done) | (simp; omega))) | ((with_reducible refine below_setCell ?_ ?_ _); · (first | omega | (simp; done) | (simp; omega))) | (with_reducible refine Below.drew ?_) | (with_reducible refine below_drewN ?_ _) | ((with_reducible refine below_call (by assumption) ?_ ?_); · (first | omega | (simp; done) | (simp; omega)))))⟩ (fun wt6 hF => ?_)
        rw [← rounds_succ]
        obtain ⟨X, Y, Z, FX, FZ, hB2⟩ := hF
        clear HX HY HZ HFX HFZ hB
        have hB := hB2
        clear hB2
        have HY := Lib.hid Y; have HZ := Lib.hid Z; have HFZ := Lib.hid FZ
        clear Y Z FZ
        rw [rounds_succ]
        go_wp2_with fail
        have hT : Below wt6.heap.size wt6 wt6.drew := Below.drew (Below.refl _ _)
        have hout : ∀ w', Below wt6.heap.size wt6 w' → (w'.cell? ⟨w.heap.size, 0, none⟩ = some (.int .i64 c) ∧ w'.cell? ⟨w.heap.size, 1, none⟩ = some (.int .i64 (a0 + b0)) ∧ w'.cell? ⟨w.heap.size, 2, none⟩ = some (.int .i64 (a1 + b1)) ∧ w'.cell? ⟨w.heap.size, 3, none⟩ = some (.int .i64 (a2 + b2)) ∧ w'.cell? ⟨w.heap.size, 4, none⟩ = some (.int .i64 (a3 + b3)) ∧ w'.cell? ⟨w.heap.size, 5, none⟩ = some (.int .i64 (a4 + b4)) ∧ w'.cell? ⟨w.heap.size, 6, none⟩ = some (.int .i64 (a5 + b5))) := fun w' h => X.call h
        have HX := Lib.hid X; have HFX := Lib.hid FX
        clear X FX
        refine wp_region_held_drew (S := fun w' => w'.cell? ⟨w.heap.size, 0, none⟩ = some (.int .i64 c) ∧ w'.cell? ⟨w.heap.size, 1, none⟩ = some (.int .i64 (a0 + b0)) ∧ w'.cell? ⟨w.heap.size, 2, none⟩ = some (.int .i64 (a1 + b1)) ∧ w'.cell? ⟨w.heap.size, 3, none⟩ = some (.int .i64 (a2 + b2)) ∧ w'.cell? ⟨w.heap.size, 4, none⟩ = some (.int .i64 (a3 + b3)) ∧ w'.cell? ⟨w.heap.size, 5, none⟩ = some (.int .i64 (a4 + b4)) ∧ w'.cell? ⟨w.heap.size, 6, none⟩ = some (.int .i64 (a5 + b5))) (by kernel_rfl) (hout _ (by assumption)) (fun hHeld => ?_)
        (refine wpAnyH_take (i := 0) (v := ?_) rfl (by kernel_rfl) (by kernel_rfl) (by kernel_rfl) (fun _ _ _ h => h) (Or.inl ⟨by rfl, ?_⟩) (by assumption) ?_; rotate_left 1; (focus (intro wz hz; (try dsimp only at hz); (try simp only [List.getElem_toArray, List.getElem_cons_succ, List.getElem_cons_zero]); go_simp; try (with_reducible rfl); done)))
        try simp only [Act.put, List.getElem_toArray, List.getElem_cons_succ, List.getElem_cons_zero, List.setIfInBounds_toArray, List.set_cons_zero, List.set_cons_succ]
        (refine wpAnyH_take (i := 2) (v := ?_) rfl (by kernel_rfl) (by kernel_rfl) (by kernel_rfl) (fun _ _ _ h => h) (Or.inl ⟨by rfl, ?_⟩) (by assumption) ?_; rotate_left 1; (focus (intro wz hz; (try dsimp only at hz); (try simp only [List.getElem_toArray, List.getElem_cons_succ, List.getElem_cons_zero]); go_simp; try (with_reducible rfl); done)))
        try simp only [Act.put, List.getElem_toArray, List.getElem_cons_succ, List.getElem_cons_zero, List.setIfInBounds_toArray, List.set_cons_zero, List.set_cons_succ]
        (refine wpAnyH_take (i := 3) (v := ?_) rfl (by kernel_rfl) (by kernel_rfl) (by kernel_rfl) (fun _ _ _ h => h) (Or.inl ⟨by rfl, ?_⟩) (by assumption) ?_; rotate_left 1; (focus (intro wz hz; (try dsimp only at hz); (try simp only [List.getElem_toArray, List.getElem_cons_succ, List.getElem_cons_zero]); go_simp; try (with_reducible rfl); done)))
        try simp only [Act.put, List.getElem_toArray, List.getElem_cons_succ, List.getElem_cons_zero, List.setIfInBounds_toArray, List.set_cons_zero, List.set_cons_succ]
        (refine wpAnyH_ready (rs := [1]) (by kernel_rfl) (by simp) ?_; refine AllReadyH.cons rfl (fun K hK => ?_) AllReadyH.nil; (try simp only [List.getElem_toArray, List.getElem_cons_succ, List.getElem_cons_zero]); go_simp; go_at_call 31; refine (cs.out _).mono ?_; rintro e wn1 ⟨rfl, hbn1⟩; have hT1 : Below wt6.heap.size wt6 wn1 := hT.trans (hbn1.mono (Nat.le_refl _)); (try (go_wp2_with fail)); refine hK.out _ _ (hout _ (by assumption)) (fun hHeld => ?_); clear hK K)
        try simp only [Act.put, List.getElem_toArray, List.getElem_cons_succ, List.getElem_cons_zero, List.setIfInBounds_toArray, List.set_cons_zero, List.set_cons_succ]
        (refine wpAnyH_take (i := 4) (v := ?_) rfl (by kernel_rfl) (by kernel_rfl) (by kernel_rfl) (fun _ _ _ h => h) (Or.inl ⟨by rfl, ?_⟩) (by assumption) ?_; rotate_left 1; (focus (intro wz hz; (try dsimp only at hz); (try simp only [List.getElem_toArray, List.getElem_cons_succ, List.getElem_cons_zero]); go_simp; try (with_reducible rfl); done)))
        try simp only [Act.put, List.getElem_toArray, List.getElem_cons_succ, List.getElem_cons_zero, List.setIfInBounds_toArray, List.set_cons_zero, List.set_cons_succ]
        refine wpAnyH_done (by kernel_rfl) ?_ _
        clear hHeld
        obtain ⟨x0, x1, x2, x3, x4, x5, x6⟩ := HX.out.call hT1
        obtain ⟨z0, z1, z2, z3, z4, z5, z6⟩ := HZ.out.call hT1
        have fz := HFZ.out.call HZ.out.lt hT1
        obtain ⟨f0, f1, f2, f3, f4, f5, f6⟩ : wn1.frozen? ⟨w.heap.size + 1 + 1, 0, none⟩ = false ∧ wn1.frozen? ⟨w.heap.size + 1 + 1, 1, none⟩ = false ∧ wn1.frozen? ⟨w.heap.size + 1 + 1, 2, none⟩ = false ∧ wn1.frozen? ⟨w.heap.size + 1 + 1, 3, none⟩ = false ∧ wn1.frozen? ⟨w.heap.size + 1 + 1, 4, none⟩ = false ∧ wn1.frozen? ⟨w.heap.size + 1 + 1, 5, none⟩ = false ∧ wn1.frozen? ⟨w.heap.size + 1 + 1, 6, none⟩ = false := ⟨fz _, fz _, fz _, fz _, fz _, fz _, fz _⟩
        have hB7 := below_call hT1 hB.size hB
        clear fz hout
        by_cases hgt : c < sumN (a0 + b0) (a1 + b1) (a2 + b2) (a3 + b3) (a4 + b4) (a5 + b5)
        · go_wp2
          refine bodyPost_ret (v := .tuple #[stV 0 0 0 0 0 0 0, .int .i64 7]) (by simp [results, Try.results11, go_sem, z0, z1, z2, z3, z4, z5, z6]) rfl ⟨by first | rw [if_pos hgt, mrgV_no (by decide)] | rw [mrgV_no (by decide)], ?_⟩
          (repeat (first | (with_reducible exact hB7) | ((with_reducible refine below_setCell ?_ ?_ _); · (first | omega | (simp; omega)))))
        · have hle : sumN (a0 + b0) (a1 + b1) (a2 + b2) (a3 + b3) (a4 + b4) (a5 + b5) ≤ c := by omega
          go_wp2
          refine bodyPost_ret (v := .tuple #[stV c (a0 + b0) (a1 + b1) (a2 + b2) (a3 + b3) (a4 + b4) (a5 + b5), .int .i64 0]) (by simp [results, Try.results11, go_sem, z0, z1, z2, z3, z4, z5, z6]) rfl ⟨by first | rw [if_neg hgt, mrgV_yes] | rw [mrgV_yes], ?_⟩
          (repeat (first | (with_reducible exact hB7) | ((with_reducible refine below_setCell ?_ ?_ _); · (first | omega | (simp; omega)))))
      · rw [show mrgE c a0 a1 a2 a3 a4 a5 d b0 b1 b2 b3 b4 b5 = 2 from by unfold mrgE; rw [if_pos ha, if_pos hb, if_neg hcd], mrgV_no (by decide)]
        clear ha hb
        simp only [stV] at *
        go_enter Try.func11, Try.ntmps11
        go_wp2_with fail
        refine (ca _).mono ?_; rintro e w1 ⟨rfl, hb1⟩
        obtain ⟨hk1, hf1, hz1⟩ := bcellN (n := w.heap.size + 3) (by (try simp only [World.size_drew, World.size_alloc, World.size_setCell]); omega) hb1; have hz1_0 : w.heap.size < w1.heap.size := (by omega); have hz1_1 : w.heap.size + 1 < w1.heap.size := (by omega); have hz1_2 : w.heap.size + 2 < w1.heap.size := (by omega)
        go_wp2_with fail
        refine (cb _).mono ?_; rintro e w2 ⟨rfl, hb2⟩
        obtain ⟨hk2, hf2, hz2⟩ := bcellN (n := w.heap.size + 3) (by (try simp only [World.size_drew, World.size_alloc, World.size_setCell]); omega) hb2; have hz2_0 : w.heap.size < w2.heap.size := (by omega); have hz2_1 : w.heap.size + 1 < w2.heap.size := (by omega); have hz2_2 : w.heap.size + 2 < w2.heap.size := (by omega)
        go_wp2
        refine bodyPost_ret (v := .tuple #[stV 0 0 0 0 0 0 0, .int .i64 2]) (by simp [results, Try.results11, go_sem, hk1, hz1_0, hz1_1, hz1_2, hk2, hz2_0, hz2_1, hz2_2]) rfl ⟨rfl, ?_⟩
        (repeat (first | (with_reducible exact Below.refl _ _) | ((with_reducible refine below_alloc ?_ ?_ _); · (first | omega | (simp; done) | (simp; omega))) | ((with_reducible refine below_setCell ?_ ?_ _); · (first | omega | (simp; done) | (simp; omega))) | (with_reducible refine Below.drew ?_) | (with_reducible refine below_drewN ?_ _) | ((with_reducible refine below_call (by assumption) ?_ ?_); · (first | omega | (simp; done) | (simp; omega)))))
    · rw [show mrgE c a0 a1 a2 a3 a4 a5 d b0 b1 b2 b3 b4 b5 = chkN d b0 b1 b2 b3 b4 b5 from by unfold mrgE; rw [if_pos ha, if_neg hb], mrgV_no hb]
      rw [ha] at ca
      clear ha
      generalize chkN d b0 b1 b2 b3 b4 b5 = E at cb hb ⊢
      simp only [stV] at *
      go_enter Try.func11, Try.ntmps11
      go_wp2_with fail
      refine (ca _).mono ?_; rintro e w1 ⟨rfl, hb1⟩
      obtain ⟨hk1, hf1, hz1⟩ := bcellN (n := w.heap.size + 3) (by (try simp only [World.size_drew, World.size_alloc, World.size_setCell]); omega) hb1; have hz1_0 : w.heap.size < w1.heap.size := (by omega); have hz1_1 : w.heap.size + 1 < w1.heap.size := (by omega); have hz1_2 : w.heap.size + 2 < w1.heap.size := (by omega)
      go_wp2_with fail
      refine (cb _).mono ?_; rintro e w2 ⟨rfl, hb2⟩
      obtain ⟨hk2, hf2, hz2⟩ := bcellN (n := w.heap.size + 3) (by (try simp only [World.size_drew, World.size_alloc, World.size_setCell]); omega) hb2; have hz2_0 : w.heap.size < w2.heap.size := (by omega); have hz2_1 : w.heap.size + 1 < w2.heap.size := (by omega); have hz2_2 : w.heap.size + 2 < w2.heap.size := (by omega)
      go_wp2
      refine bodyPost_ret (v := .tuple #[stV 0 0 0 0 0 0 0, .int .i64 E]) (by simp [results, Try.results11, go_sem, hk1, hz1_0, hz1_1, hz1_2, hk2, hz2_0, hz2_1, hz2_2]) rfl ⟨rfl, ?_⟩
      (repeat (first | (with_reducible exact Below.refl _ _) | ((with_reducible refine below_alloc ?_ ?_ _); · (first | omega | (simp; done) | (simp; omega))) | ((with_reducible refine below_setCell ?_ ?_ _); · (first | omega | (simp; done) | (simp; omega))) | (with_reducible refine Below.drew ?_) | (with_reducible refine below_drewN ?_ _) | ((with_reducible refine below_call (by assumption) ?_ ?_); · (first | omega | (simp; done) | (simp; omega)))))
  · rw [show mrgE c a0 a1 a2 a3 a4 a5 d b0 b1 b2 b3 b4 b5 = chkN c a0 a1 a2 a3 a4 a5 from by unfold mrgE; rw [if_neg ha], mrgV_no ha]
    generalize chkN c a0 a1 a2 a3 a4 a5 = E at ca ha ⊢
    clear cb
    simp only [stV] at *
    go_enter Try.func11, Try.ntmps11
    go_wp2_with fail
    refine (ca _).mono ?_; rintro e w1 ⟨rfl, hb1⟩
    obtain ⟨hk1, hf1, hz1⟩ := bcellN (n := w.heap.size + 3) (by (try simp only [World.size_drew, World.size_alloc, World.size_setCell]); omega) hb1; have hz1_0 : w.heap.size < w1.heap.size := (by omega); have hz1_1 : w.heap.size + 1 < w1.heap.size := (by omega); have hz1_2 : w.heap.size + 2 < w1.heap.size := (by omega)
    go_wp2
    refine bodyPost_ret (v := .tuple #[stV 0 0 0 0 0 0 0, .int .i64 E]) (by simp [results, Try.results11, go_sem, hk1, hz1_0, hz1_1, hz1_2]) rfl ⟨rfl, ?_⟩
    (repeat (first | (with_reducible exact Below.refl _ _) | ((with_reducible refine below_alloc ?_ ?_ _); · (first | omega | (simp; done) | (simp; omega))) | ((with_reducible refine below_setCell ?_ ?_ _); · (first | omega | (simp; done) | (simp; omega))) | (with_reducible refine Below.drew ?_) | (with_reducible refine below_drewN ?_ _) | ((with_reducible refine below_call (by assumption) ?_ ?_); · (first | omega | (simp; done) | (simp; omega)))))
end Go.Proofs.Ytkohdfmhigejoaa
