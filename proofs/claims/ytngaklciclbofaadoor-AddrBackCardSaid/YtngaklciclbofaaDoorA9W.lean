/- Layer 9: awake: what every right program reads, and prints. -/
import Derived.Test.YtngaklciclbofaaDoorA9S
namespace Go.Proofs.YtngaklciclbofaaDoor
open Go.RowKit
set_option linter.unusedVariables false
set_option linter.unusedSimpArgs false

theorem k_p1 (w : World) (hT : Tabs9 w) : Calls Tryd.prog 8 #[.string ⟨#[65, 110, 110, 64, 72, 111, 109, 101, 46, 111, 114, 103, 47, 68, 101, 32, 115, 107]⟩] w fun e w' => e = .returned (.tuple #[adV ⟨#[97, 110, 110]⟩ ⟨#[104, 111, 109, 101, 46, 111, 114, 103]⟩ ⟨#[68, 101, 32, 115, 107]⟩, .int .i64 0]) ∧ Below w.heap.size w w' := by
  have h := aparse_any ⟨#[65, 110, 110, 64, 72, 111, 109, 101, 46, 111, 114, 103, 47, 68, 101, 32, 115, 107]⟩ w hT (by decide)
  unfold parV at h
  rw [show parE ⟨#[65, 110, 110, 64, 72, 111, 109, 101, 46, 111, 114, 103, 47, 68, 101, 32, 115, 107]⟩ = 0 from by decide +kernel] at h
  rw [me_yes, me_yes, me_yes] at h
  rw [show nmP ⟨#[65, 110, 110, 64, 72, 111, 109, 101, 46, 111, 114, 103, 47, 68, 101, 32, 115, 107]⟩ = ⟨#[97, 110, 110]⟩ from by decide +kernel] at h
  rw [show hsP ⟨#[65, 110, 110, 64, 72, 111, 109, 101, 46, 111, 114, 103, 47, 68, 101, 32, 115, 107]⟩ = ⟨#[104, 111, 109, 101, 46, 111, 114, 103]⟩ from by decide +kernel] at h
  rw [show rsP ⟨#[65, 110, 110, 64, 72, 111, 109, 101, 46, 111, 114, 103, 47, 68, 101, 32, 115, 107]⟩ = ⟨#[68, 101, 32, 115, 107]⟩ from by decide +kernel] at h
  exact h
theorem k_pr (w : World) (hT : Tabs9 w) : Calls Tryd.prog 18 #[adV ⟨#[97, 110, 110]⟩ ⟨#[104, 111, 109, 101, 46, 111, 114, 103]⟩ ⟨#[68, 101, 32, 115, 107]⟩] w fun e w' => e = .returned (.tuple #[.string ⟨#[97, 110, 110, 64, 104, 111, 109, 101, 46, 111, 114, 103, 47, 68, 101, 32, 115, 107]⟩, .int .i64 0]) ∧ Below w.heap.size w w' := by
  have h := aprint_any ⟨#[97, 110, 110]⟩ ⟨#[104, 111, 109, 101, 46, 111, 114, 103]⟩ ⟨#[68, 101, 32, 115, 107]⟩ w hT (by decide) (by decide) (by decide)
  rw [show priT ⟨#[97, 110, 110]⟩ ⟨#[104, 111, 109, 101, 46, 111, 114, 103]⟩ ⟨#[68, 101, 32, 115, 107]⟩ = ⟨#[97, 110, 110, 64, 104, 111, 109, 101, 46, 111, 114, 103, 47, 68, 101, 32, 115, 107]⟩ from by decide +kernel] at h
  rw [show chkA ⟨#[97, 110, 110]⟩ ⟨#[104, 111, 109, 101, 46, 111, 114, 103]⟩ ⟨#[68, 101, 32, 115, 107]⟩ = 0 from by decide +kernel] at h
  exact h
theorem k_ba (w : World) (hT : Tabs9 w) : Calls Tryd.prog 10 #[.string ⟨#[97, 110, 110, 64, 104, 111, 109, 101, 46, 111, 114, 103, 47, 68, 101, 32, 115, 107]⟩] w fun e w' => e = .returned (.tuple #[.string ⟨#[97, 110, 110, 64, 104, 111, 109, 101, 46, 111, 114, 103]⟩, .int .i64 0]) ∧ Below w.heap.size w w' := by
  have h := abare_any ⟨#[97, 110, 110, 64, 104, 111, 109, 101, 46, 111, 114, 103, 47, 68, 101, 32, 115, 107]⟩ w hT (by decide)
  rw [show barT ⟨#[97, 110, 110, 64, 104, 111, 109, 101, 46, 111, 114, 103, 47, 68, 101, 32, 115, 107]⟩ = ⟨#[97, 110, 110, 64, 104, 111, 109, 101, 46, 111, 114, 103]⟩ from by decide +kernel] at h
  rw [show barE ⟨#[97, 110, 110, 64, 104, 111, 109, 101, 46, 111, 114, 103, 47, 68, 101, 32, 115, 107]⟩ = 0 from by decide +kernel] at h
  exact h
theorem k_p2 (w : World) (hT : Tabs9 w) : Calls Tryd.prog 8 #[.string ⟨#[97, 110, 110]⟩] w fun e w' => e = .returned (.tuple #[adV ⟨#[]⟩ ⟨#[]⟩ ⟨#[]⟩, .int .i64 4]) ∧ Below w.heap.size w w' := by
  have h := aparse_any ⟨#[97, 110, 110]⟩ w hT (by decide)
  unfold parV at h
  rw [show parE ⟨#[97, 110, 110]⟩ = 4 from by decide +kernel] at h
  rw [me_no (by decide), me_no (by decide), me_no (by decide)] at h
  exact h
theorem k_p3 (w : World) (hT : Tabs9 w) : Calls Tryd.prog 8 #[.string ⟨#[97, 32, 98, 64, 99]⟩] w fun e w' => e = .returned (.tuple #[adV ⟨#[]⟩ ⟨#[]⟩ ⟨#[]⟩, .int .i64 11]) ∧ Below w.heap.size w w' := by
  have h := aparse_any ⟨#[97, 32, 98, 64, 99]⟩ w hT (by decide)
  unfold parV at h
  rw [show parE ⟨#[97, 32, 98, 64, 99]⟩ = 11 from by decide +kernel] at h
  rw [me_no (by decide), me_no (by decide), me_no (by decide)] at h
  exact h
theorem k_p4 (w : World) (hT : Tabs9 w) : Calls Tryd.prog 8 #[.string ⟨#[97, 64, 98, 47]⟩] w fun e w' => e = .returned (.tuple #[adV ⟨#[]⟩ ⟨#[]⟩ ⟨#[]⟩, .int .i64 4]) ∧ Below w.heap.size w w' := by
  have h := aparse_any ⟨#[97, 64, 98, 47]⟩ w hT (by decide)
  unfold parV at h
  rw [show parE ⟨#[97, 64, 98, 47]⟩ = 4 from by decide +kernel] at h
  rw [me_no (by decide), me_no (by decide), me_no (by decide)] at h
  exact h
theorem k_p5 (w : World) (hT : Tabs9 w) : Calls Tryd.prog 8 #[.string ⟨#[97, 64, 46, 98]⟩] w fun e w' => e = .returned (.tuple #[adV ⟨#[]⟩ ⟨#[]⟩ ⟨#[]⟩, .int .i64 11]) ∧ Below w.heap.size w w' := by
  have h := aparse_any ⟨#[97, 64, 46, 98]⟩ w hT (by decide)
  unfold parV at h
  rw [show parE ⟨#[97, 64, 46, 98]⟩ = 11 from by decide +kernel] at h
  rw [me_no (by decide), me_no (by decide), me_no (by decide)] at h
  exact h
theorem k_f1 (w : World) (hT : Tabs9 w) : Calls Tryd.prog 12 #[.string ⟨#[97, 64, 98]⟩, .string ⟨#[99, 47, 100]⟩] w fun e w' => e = .returned (.tuple #[.string ⟨#[97, 64, 98, 47, 99, 47, 100]⟩, .int .i64 0]) ∧ Below w.heap.size w w' := by
  have h := afull_any ⟨#[97, 64, 98]⟩ ⟨#[99, 47, 100]⟩ w hT (by decide) (by decide)
  rw [show fulT ⟨#[97, 64, 98]⟩ ⟨#[99, 47, 100]⟩ = ⟨#[97, 64, 98, 47, 99, 47, 100]⟩ from by decide +kernel] at h
  rw [show fulE ⟨#[97, 64, 98]⟩ ⟨#[99, 47, 100]⟩ = 0 from by decide +kernel] at h
  exact h
theorem k_f2 (w : World) (hT : Tabs9 w) : Calls Tryd.prog 12 #[.string ⟨#[97, 64, 98, 47, 99]⟩, .string ⟨#[100]⟩] w fun e w' => e = .returned (.tuple #[.string ⟨#[]⟩, .int .i64 4]) ∧ Below w.heap.size w w' := by
  have h := afull_any ⟨#[97, 64, 98, 47, 99]⟩ ⟨#[100]⟩ w hT (by decide) (by decide)
  rw [show fulT ⟨#[97, 64, 98, 47, 99]⟩ ⟨#[100]⟩ = ⟨#[]⟩ from by decide +kernel] at h
  rw [show fulE ⟨#[97, 64, 98, 47, 99]⟩ ⟨#[100]⟩ = 4 from by decide +kernel] at h
  exact h
theorem k_p6 (w : World) (hT : Tabs9 w) : Calls Tryd.prog 8 #[.string ⟨#[97, 64, 98, 98, 98, 98, 98, 98, 98, 98, 98, 98, 98, 98, 98, 98, 98, 98, 98]⟩] w fun e w' => e = .returned (.tuple #[adV ⟨#[]⟩ ⟨#[]⟩ ⟨#[]⟩, .int .i64 5]) ∧ Below w.heap.size w w' := by
  have h := aparse_any ⟨#[97, 64, 98, 98, 98, 98, 98, 98, 98, 98, 98, 98, 98, 98, 98, 98, 98, 98, 98]⟩ w hT (by decide)
  unfold parV at h
  rw [show parE ⟨#[97, 64, 98, 98, 98, 98, 98, 98, 98, 98, 98, 98, 98, 98, 98, 98, 98, 98, 98]⟩ = 5 from by decide +kernel] at h
  rw [me_no (by decide), me_no (by decide), me_no (by decide)] at h
  exact h
theorem k_i0 (w : World) (hT : Tabs9 w) : Calls Tryd.prog 14 #[.string ⟨#[97, 64, 98]⟩] w fun e w' => e = .returned (.bool true) ∧ Below w.heap.size w w' := by
  have h := aisbare_any ⟨#[97, 64, 98]⟩ w hT (by decide)
  rw [show isB ⟨#[97, 64, 98]⟩ = true from by decide +kernel] at h
  exact h
theorem k_i1 (w : World) (hT : Tabs9 w) : Calls Tryd.prog 14 #[.string ⟨#[65, 64, 98]⟩] w fun e w' => e = .returned (.bool false) ∧ Below w.heap.size w w' := by
  have h := aisbare_any ⟨#[65, 64, 98]⟩ w hT (by decide)
  rw [show isB ⟨#[65, 64, 98]⟩ = false from by decide +kernel] at h
  exact h
theorem k_i2 (w : World) (hT : Tabs9 w) : Calls Tryd.prog 14 #[.string ⟨#[97, 110, 110, 64, 104, 111, 109, 101, 46, 111, 114, 103, 47, 68, 101, 32, 115, 107]⟩] w fun e w' => e = .returned (.bool false) ∧ Below w.heap.size w w' := by
  have h := aisbare_any ⟨#[97, 110, 110, 64, 104, 111, 109, 101, 46, 111, 114, 103, 47, 68, 101, 32, 115, 107]⟩ w hT (by decide)
  rw [show isB ⟨#[97, 110, 110, 64, 104, 111, 109, 101, 46, 111, 114, 103, 47, 68, 101, 32, 115, 107]⟩ = false from by decide +kernel] at h
  exact h
theorem k_le (w : World) : Calls Tryd.prog 22 #[adV ⟨#[97]⟩ ⟨#[122]⟩ ⟨#[]⟩, adV ⟨#[98]⟩ ⟨#[]⟩ ⟨#[]⟩] w fun e w' => e = .returned (.bool true) ∧ Below w.heap.size w w' := by
  have h := aless_any ⟨#[97]⟩ ⟨#[122]⟩ ⟨#[]⟩ ⟨#[98]⟩ ⟨#[]⟩ ⟨#[]⟩ w
  rw [show lessA (⟨#[97]⟩, ⟨#[122]⟩, ⟨#[]⟩) (⟨#[98]⟩, ⟨#[]⟩, ⟨#[]⟩) = true from by decide +kernel] at h
  exact h
theorem k_s1 (w : World) : Calls Tryd.prog 24 #[adV ⟨#[97, 110, 110]⟩ ⟨#[104, 111, 109, 101, 46, 111, 114, 103]⟩ ⟨#[68, 101, 32, 115, 107]⟩, adV ⟨#[97, 110, 110]⟩ ⟨#[104, 111, 109, 101, 46, 111, 114, 103]⟩ ⟨#[68, 101, 32, 115, 107]⟩] w fun e w' => e = .returned (.bool true) ∧ Below w.heap.size w w' := by
  have h := asame_any ⟨#[97, 110, 110]⟩ ⟨#[104, 111, 109, 101, 46, 111, 114, 103]⟩ ⟨#[68, 101, 32, 115, 107]⟩ ⟨#[97, 110, 110]⟩ ⟨#[104, 111, 109, 101, 46, 111, 114, 103]⟩ ⟨#[68, 101, 32, 115, 107]⟩ w
  rw [decide_eq_true rfl] at h
  exact h
theorem k_s2 (w : World) : Calls Tryd.prog 24 #[adV ⟨#[97, 110, 110]⟩ ⟨#[104, 111, 109, 101, 46, 111, 114, 103]⟩ ⟨#[68, 101, 32, 115, 107]⟩, adV ⟨#[]⟩ ⟨#[]⟩ ⟨#[]⟩] w fun e w' => e = .returned (.bool false) ∧ Below w.heap.size w w' := by
  have h := asame_any ⟨#[97, 110, 110]⟩ ⟨#[104, 111, 109, 101, 46, 111, 114, 103]⟩ ⟨#[68, 101, 32, 115, 107]⟩ ⟨#[]⟩ ⟨#[]⟩ ⟨#[]⟩ w
  rw [show decide (((⟨#[97, 110, 110]⟩, ⟨#[104, 111, 109, 101, 46, 111, 114, 103]⟩, ⟨#[68, 101, 32, 115, 107]⟩) : ByteArray × ByteArray × ByteArray) = (⟨#[]⟩, ⟨#[]⟩, ⟨#[]⟩)) = false from by decide +kernel] at h
  exact h
theorem k_re (w : World) (hT : Tabs9 w) : Calls Tryd.prog 16 #[.string ⟨#[10]⟩] w fun e w' => e = .returned (.int .i64 11) ∧ Below w.heap.size w w' := by
  have h := ares_any ⟨#[10]⟩ w hT
  rw [show resE ⟨#[10]⟩ = 11 from by decide +kernel] at h
  exact h
theorem k_ch (w : World) (hT : Tabs9 w) : Calls Tryd.prog 20 #[adV ⟨#[97, 110, 110]⟩ ⟨#[104, 111, 109, 101, 46, 111, 114, 103]⟩ ⟨#[68, 101, 32, 115, 107]⟩] w fun e w' => e = .returned (.int .i64 0) ∧ Below w.heap.size w w' := by
  have h := acheck_any ⟨#[97, 110, 110]⟩ ⟨#[104, 111, 109, 101, 46, 111, 114, 103]⟩ ⟨#[68, 101, 32, 115, 107]⟩ w hT
  rw [show chkA ⟨#[97, 110, 110]⟩ ⟨#[104, 111, 109, 101, 46, 111, 114, 103]⟩ ⟨#[68, 101, 32, 115, 107]⟩ = 0 from by decide +kernel] at h
  exact h

set_option maxRecDepth 100000 in
set_option maxHeartbeats 8000000 in
theorem awake_any (w : World) (hT : Tabs9 w) : Calls Tryd.prog 7 #[] w fun e w' => e = .returned (.bool true) ∧ Below w.heap.size w w' := by
  go_enter Tryd.func7, Tryd.ntmps7
  go_wp2_with fail
  refine (k_p1 _ (hT)).mono ?_; rintro e w1 ⟨rfl, hb1⟩
  have hz1 := hb1.size
  have HB1 := hb1
  go_wp2_with fail
  refine (k_pr _ ((HB1.trans ((show Below w1.heap.size w1 _ by (repeat (first | (with_reducible exact Below.refl _ _) | ((with_reducible refine below_alloc ?_ ?_ _); · (first | omega | (simp; done) | (simp; omega))) | ((with_reducible refine below_setCell ?_ ?_ _); · (first | omega | (simp; done) | (simp; omega))) | (with_reducible refine Below.drew ?_) | (with_reducible refine below_drewN ?_ _) | ((with_reducible refine below_call (by assumption) ?_ ?_); · (first | omega | (simp; done) | (simp; omega)))))).mono HB1.size)) |> fun h => hT.call h)).mono ?_; rintro e w2 ⟨rfl, hb2⟩
  have hz2 := hb2.size
  have hg2 : Below w1.heap.size w1 w2 := by (repeat (first | (with_reducible exact Below.refl _ _) | ((with_reducible refine below_alloc ?_ ?_ _); · (first | omega | (simp; done) | (simp; omega))) | ((with_reducible refine below_setCell ?_ ?_ _); · (first | omega | (simp; done) | (simp; omega))) | (with_reducible refine Below.drew ?_) | (with_reducible refine below_drewN ?_ _) | ((with_reducible refine below_call (by assumption) ?_ ?_); · (first | omega | (simp; done) | (simp; omega)))))
  have HB2 := HB1.trans (hg2.mono HB1.size)
  have XA : Hid (Bx3 w2 w1.heap.size ⟨#[97, 110, 110]⟩ ⟨#[104, 111, 109, 101, 46, 111, 114, 103]⟩ ⟨#[68, 101, 32, 115, 107]⟩) := Lib.hid (Bx3.call (by simp [Bx3, go_sem]) hb2)
  have lA := XA.out.lt
  obtain ⟨a0, a1, a2⟩ := id XA.out
  go_wp2_with fail
  clear a0 a1 a2 lA
  refine (k_ba _ ((HB2.trans ((show Below w2.heap.size w2 _ by (repeat (first | (with_reducible exact Below.refl _ _) | ((with_reducible refine below_alloc ?_ ?_ _); · (first | omega | (simp; done) | (simp; omega))) | ((with_reducible refine below_setCell ?_ ?_ _); · (first | omega | (simp; done) | (simp; omega))) | (with_reducible refine Below.drew ?_) | (with_reducible refine below_drewN ?_ _) | ((with_reducible refine below_call (by assumption) ?_ ?_); · (first | omega | (simp; done) | (simp; omega)))))).mono HB2.size)) |> fun h => hT.call h)).mono ?_; rintro e w3 ⟨rfl, hb3⟩
  have hz3 := hb3.size
  have hg3 : Below w2.heap.size w2 w3 := by (repeat (first | (with_reducible exact Below.refl _ _) | ((with_reducible refine below_alloc ?_ ?_ _); · (first | omega | (simp; done) | (simp; omega))) | ((with_reducible refine below_setCell ?_ ?_ _); · (first | omega | (simp; done) | (simp; omega))) | (with_reducible refine Below.drew ?_) | (with_reducible refine below_drewN ?_ _) | ((with_reducible refine below_call (by assumption) ?_ ?_); · (first | omega | (simp; done) | (simp; omega)))))
  have HB3 := HB2.trans (hg3.mono HB2.size)
  have XA := Lib.hid (XA.out.call hg3)
  have lA := XA.out.lt
  obtain ⟨a0, a1, a2⟩ := id XA.out
  go_wp2_with fail
  clear a0 a1 a2 lA
  refine (k_p2 _ ((HB3.trans ((show Below w3.heap.size w3 _ by (repeat (first | (with_reducible exact Below.refl _ _) | ((with_reducible refine below_alloc ?_ ?_ _); · (first | omega | (simp; done) | (simp; omega))) | ((with_reducible refine below_setCell ?_ ?_ _); · (first | omega | (simp; done) | (simp; omega))) | (with_reducible refine Below.drew ?_) | (with_reducible refine below_drewN ?_ _) | ((with_reducible refine below_call (by assumption) ?_ ?_); · (first | omega | (simp; done) | (simp; omega)))))).mono HB3.size)) |> fun h => hT.call h)).mono ?_; rintro e w4 ⟨rfl, hb4⟩
  have hz4 := hb4.size
  have hg4 : Below w3.heap.size w3 w4 := by (repeat (first | (with_reducible exact Below.refl _ _) | ((with_reducible refine below_alloc ?_ ?_ _); · (first | omega | (simp; done) | (simp; omega))) | ((with_reducible refine below_setCell ?_ ?_ _); · (first | omega | (simp; done) | (simp; omega))) | (with_reducible refine Below.drew ?_) | (with_reducible refine below_drewN ?_ _) | ((with_reducible refine below_call (by assumption) ?_ ?_); · (first | omega | (simp; done) | (simp; omega)))))
  have HB4 := HB3.trans (hg4.mono HB3.size)
  have XA := Lib.hid (XA.out.call hg4)
  have lA := XA.out.lt
  obtain ⟨a0, a1, a2⟩ := id XA.out
  go_wp2_with fail
  clear a0 a1 a2 lA
  refine (k_p3 _ ((HB4.trans ((show Below w4.heap.size w4 _ by (repeat (first | (with_reducible exact Below.refl _ _) | ((with_reducible refine below_alloc ?_ ?_ _); · (first | omega | (simp; done) | (simp; omega))) | ((with_reducible refine below_setCell ?_ ?_ _); · (first | omega | (simp; done) | (simp; omega))) | (with_reducible refine Below.drew ?_) | (with_reducible refine below_drewN ?_ _) | ((with_reducible refine below_call (by assumption) ?_ ?_); · (first | omega | (simp; done) | (simp; omega)))))).mono HB4.size)) |> fun h => hT.call h)).mono ?_; rintro e w5 ⟨rfl, hb5⟩
  have hz5 := hb5.size
  have hg5 : Below w4.heap.size w4 w5 := by (repeat (first | (with_reducible exact Below.refl _ _) | ((with_reducible refine below_alloc ?_ ?_ _); · (first | omega | (simp; done) | (simp; omega))) | ((with_reducible refine below_setCell ?_ ?_ _); · (first | omega | (simp; done) | (simp; omega))) | (with_reducible refine Below.drew ?_) | (with_reducible refine below_drewN ?_ _) | ((with_reducible refine below_call (by assumption) ?_ ?_); · (first | omega | (simp; done) | (simp; omega)))))
  have HB5 := HB4.trans (hg5.mono HB4.size)
  have XA := Lib.hid (XA.out.call hg5)
  have lA := XA.out.lt
  obtain ⟨a0, a1, a2⟩ := id XA.out
  go_wp2_with fail
  clear a0 a1 a2 lA
  refine (k_p4 _ ((HB5.trans ((show Below w5.heap.size w5 _ by (repeat (first | (with_reducible exact Below.refl _ _) | ((with_reducible refine below_alloc ?_ ?_ _); · (first | omega | (simp; done) | (simp; omega))) | ((with_reducible refine below_setCell ?_ ?_ _); · (first | omega | (simp; done) | (simp; omega))) | (with_reducible refine Below.drew ?_) | (with_reducible refine below_drewN ?_ _) | ((with_reducible refine below_call (by assumption) ?_ ?_); · (first | omega | (simp; done) | (simp; omega)))))).mono HB5.size)) |> fun h => hT.call h)).mono ?_; rintro e w6 ⟨rfl, hb6⟩
  have hz6 := hb6.size
  have hg6 : Below w5.heap.size w5 w6 := by (repeat (first | (with_reducible exact Below.refl _ _) | ((with_reducible refine below_alloc ?_ ?_ _); · (first | omega | (simp; done) | (simp; omega))) | ((with_reducible refine below_setCell ?_ ?_ _); · (first | omega | (simp; done) | (simp; omega))) | (with_reducible refine Below.drew ?_) | (with_reducible refine below_drewN ?_ _) | ((with_reducible refine below_call (by assumption) ?_ ?_); · (first | omega | (simp; done) | (simp; omega)))))
  have HB6 := HB5.trans (hg6.mono HB5.size)
  have XA := Lib.hid (XA.out.call hg6)
  have lA := XA.out.lt
  obtain ⟨a0, a1, a2⟩ := id XA.out
  go_wp2_with fail
  clear a0 a1 a2 lA
  refine (k_p5 _ ((HB6.trans ((show Below w6.heap.size w6 _ by (repeat (first | (with_reducible exact Below.refl _ _) | ((with_reducible refine below_alloc ?_ ?_ _); · (first | omega | (simp; done) | (simp; omega))) | ((with_reducible refine below_setCell ?_ ?_ _); · (first | omega | (simp; done) | (simp; omega))) | (with_reducible refine Below.drew ?_) | (with_reducible refine below_drewN ?_ _) | ((with_reducible refine below_call (by assumption) ?_ ?_); · (first | omega | (simp; done) | (simp; omega)))))).mono HB6.size)) |> fun h => hT.call h)).mono ?_; rintro e w7 ⟨rfl, hb7⟩
  have hz7 := hb7.size
  have hg7 : Below w6.heap.size w6 w7 := by (repeat (first | (with_reducible exact Below.refl _ _) | ((with_reducible refine below_alloc ?_ ?_ _); · (first | omega | (simp; done) | (simp; omega))) | ((with_reducible refine below_setCell ?_ ?_ _); · (first | omega | (simp; done) | (simp; omega))) | (with_reducible refine Below.drew ?_) | (with_reducible refine below_drewN ?_ _) | ((with_reducible refine below_call (by assumption) ?_ ?_); · (first | omega | (simp; done) | (simp; omega)))))
  have HB7 := HB6.trans (hg7.mono HB6.size)
  have XA := Lib.hid (XA.out.call hg7)
  have lA := XA.out.lt
  obtain ⟨a0, a1, a2⟩ := id XA.out
  go_wp2_with fail
  clear a0 a1 a2 lA
  refine (k_f1 _ ((HB7.trans ((show Below w7.heap.size w7 _ by (repeat (first | (with_reducible exact Below.refl _ _) | ((with_reducible refine below_alloc ?_ ?_ _); · (first | omega | (simp; done) | (simp; omega))) | ((with_reducible refine below_setCell ?_ ?_ _); · (first | omega | (simp; done) | (simp; omega))) | (with_reducible refine Below.drew ?_) | (with_reducible refine below_drewN ?_ _) | ((with_reducible refine below_call (by assumption) ?_ ?_); · (first | omega | (simp; done) | (simp; omega)))))).mono HB7.size)) |> fun h => hT.call h)).mono ?_; rintro e w8 ⟨rfl, hb8⟩
  have hz8 := hb8.size
  have hg8 : Below w7.heap.size w7 w8 := by (repeat (first | (with_reducible exact Below.refl _ _) | ((with_reducible refine below_alloc ?_ ?_ _); · (first | omega | (simp; done) | (simp; omega))) | ((with_reducible refine below_setCell ?_ ?_ _); · (first | omega | (simp; done) | (simp; omega))) | (with_reducible refine Below.drew ?_) | (with_reducible refine below_drewN ?_ _) | ((with_reducible refine below_call (by assumption) ?_ ?_); · (first | omega | (simp; done) | (simp; omega)))))
  have HB8 := HB7.trans (hg8.mono HB7.size)
  have XA := Lib.hid (XA.out.call hg8)
  have lA := XA.out.lt
  obtain ⟨a0, a1, a2⟩ := id XA.out
  go_wp2_with fail
  clear a0 a1 a2 lA
  refine (k_f2 _ ((HB8.trans ((show Below w8.heap.size w8 _ by (repeat (first | (with_reducible exact Below.refl _ _) | ((with_reducible refine below_alloc ?_ ?_ _); · (first | omega | (simp; done) | (simp; omega))) | ((with_reducible refine below_setCell ?_ ?_ _); · (first | omega | (simp; done) | (simp; omega))) | (with_reducible refine Below.drew ?_) | (with_reducible refine below_drewN ?_ _) | ((with_reducible refine below_call (by assumption) ?_ ?_); · (first | omega | (simp; done) | (simp; omega)))))).mono HB8.size)) |> fun h => hT.call h)).mono ?_; rintro e w9 ⟨rfl, hb9⟩
  have hz9 := hb9.size
  have hg9 : Below w8.heap.size w8 w9 := by (repeat (first | (with_reducible exact Below.refl _ _) | ((with_reducible refine below_alloc ?_ ?_ _); · (first | omega | (simp; done) | (simp; omega))) | ((with_reducible refine below_setCell ?_ ?_ _); · (first | omega | (simp; done) | (simp; omega))) | (with_reducible refine Below.drew ?_) | (with_reducible refine below_drewN ?_ _) | ((with_reducible refine below_call (by assumption) ?_ ?_); · (first | omega | (simp; done) | (simp; omega)))))
  have HB9 := HB8.trans (hg9.mono HB8.size)
  have XA := Lib.hid (XA.out.call hg9)
  have lA := XA.out.lt
  obtain ⟨a0, a1, a2⟩ := id XA.out
  go_wp2_with fail
  clear a0 a1 a2 lA
  refine (k_p6 _ ((HB9.trans ((show Below w9.heap.size w9 _ by (repeat (first | (with_reducible exact Below.refl _ _) | ((with_reducible refine below_alloc ?_ ?_ _); · (first | omega | (simp; done) | (simp; omega))) | ((with_reducible refine below_setCell ?_ ?_ _); · (first | omega | (simp; done) | (simp; omega))) | (with_reducible refine Below.drew ?_) | (with_reducible refine below_drewN ?_ _) | ((with_reducible refine below_call (by assumption) ?_ ?_); · (first | omega | (simp; done) | (simp; omega)))))).mono HB9.size)) |> fun h => hT.call h)).mono ?_; rintro e w10 ⟨rfl, hb10⟩
  have hz10 := hb10.size
  have hg10 : Below w9.heap.size w9 w10 := by (repeat (first | (with_reducible exact Below.refl _ _) | ((with_reducible refine below_alloc ?_ ?_ _); · (first | omega | (simp; done) | (simp; omega))) | ((with_reducible refine below_setCell ?_ ?_ _); · (first | omega | (simp; done) | (simp; omega))) | (with_reducible refine Below.drew ?_) | (with_reducible refine below_drewN ?_ _) | ((with_reducible refine below_call (by assumption) ?_ ?_); · (first | omega | (simp; done) | (simp; omega)))))
  have HB10 := HB9.trans (hg10.mono HB9.size)
  have XA := Lib.hid (XA.out.call hg10)
  have lA := XA.out.lt
  obtain ⟨a0, a1, a2⟩ := id XA.out
  go_wp2_with fail
  clear a0 a1 a2 lA
  refine (k_i0 _ ((HB10.trans ((show Below w10.heap.size w10 _ by (repeat (first | (with_reducible exact Below.refl _ _) | ((with_reducible refine below_alloc ?_ ?_ _); · (first | omega | (simp; done) | (simp; omega))) | ((with_reducible refine below_setCell ?_ ?_ _); · (first | omega | (simp; done) | (simp; omega))) | (with_reducible refine Below.drew ?_) | (with_reducible refine below_drewN ?_ _) | ((with_reducible refine below_call (by assumption) ?_ ?_); · (first | omega | (simp; done) | (simp; omega)))))).mono HB10.size)) |> fun h => hT.call h)).mono ?_; rintro e w11 ⟨rfl, hb11⟩
  have hz11 := hb11.size
  have hg11 : Below w10.heap.size w10 w11 := by (repeat (first | (with_reducible exact Below.refl _ _) | ((with_reducible refine below_alloc ?_ ?_ _); · (first | omega | (simp; done) | (simp; omega))) | ((with_reducible refine below_setCell ?_ ?_ _); · (first | omega | (simp; done) | (simp; omega))) | (with_reducible refine Below.drew ?_) | (with_reducible refine below_drewN ?_ _) | ((with_reducible refine below_call (by assumption) ?_ ?_); · (first | omega | (simp; done) | (simp; omega)))))
  have HB11 := HB10.trans (hg11.mono HB10.size)
  have XA := Lib.hid (XA.out.call hg11)
  have lA := XA.out.lt
  obtain ⟨a0, a1, a2⟩ := id XA.out
  go_wp2_with fail
  clear a0 a1 a2 lA
  refine (k_i1 _ ((HB11.trans ((show Below w11.heap.size w11 _ by (repeat (first | (with_reducible exact Below.refl _ _) | ((with_reducible refine below_alloc ?_ ?_ _); · (first | omega | (simp; done) | (simp; omega))) | ((with_reducible refine below_setCell ?_ ?_ _); · (first | omega | (simp; done) | (simp; omega))) | (with_reducible refine Below.drew ?_) | (with_reducible refine below_drewN ?_ _) | ((with_reducible refine below_call (by assumption) ?_ ?_); · (first | omega | (simp; done) | (simp; omega)))))).mono HB11.size)) |> fun h => hT.call h)).mono ?_; rintro e w12 ⟨rfl, hb12⟩
  have hz12 := hb12.size
  have hg12 : Below w11.heap.size w11 w12 := by (repeat (first | (with_reducible exact Below.refl _ _) | ((with_reducible refine below_alloc ?_ ?_ _); · (first | omega | (simp; done) | (simp; omega))) | ((with_reducible refine below_setCell ?_ ?_ _); · (first | omega | (simp; done) | (simp; omega))) | (with_reducible refine Below.drew ?_) | (with_reducible refine below_drewN ?_ _) | ((with_reducible refine below_call (by assumption) ?_ ?_); · (first | omega | (simp; done) | (simp; omega)))))
  have HB12 := HB11.trans (hg12.mono HB11.size)
  have XA := Lib.hid (XA.out.call hg12)
  have lA := XA.out.lt
  obtain ⟨a0, a1, a2⟩ := id XA.out
  go_wp2_with fail
  clear a0 a1 a2 lA
  refine (k_i2 _ ((HB12.trans ((show Below w12.heap.size w12 _ by (repeat (first | (with_reducible exact Below.refl _ _) | ((with_reducible refine below_alloc ?_ ?_ _); · (first | omega | (simp; done) | (simp; omega))) | ((with_reducible refine below_setCell ?_ ?_ _); · (first | omega | (simp; done) | (simp; omega))) | (with_reducible refine Below.drew ?_) | (with_reducible refine below_drewN ?_ _) | ((with_reducible refine below_call (by assumption) ?_ ?_); · (first | omega | (simp; done) | (simp; omega)))))).mono HB12.size)) |> fun h => hT.call h)).mono ?_; rintro e w13 ⟨rfl, hb13⟩
  have hz13 := hb13.size
  have hg13 : Below w12.heap.size w12 w13 := by (repeat (first | (with_reducible exact Below.refl _ _) | ((with_reducible refine below_alloc ?_ ?_ _); · (first | omega | (simp; done) | (simp; omega))) | ((with_reducible refine below_setCell ?_ ?_ _); · (first | omega | (simp; done) | (simp; omega))) | (with_reducible refine Below.drew ?_) | (with_reducible refine below_drewN ?_ _) | ((with_reducible refine below_call (by assumption) ?_ ?_); · (first | omega | (simp; done) | (simp; omega)))))
  have HB13 := HB12.trans (hg13.mono HB12.size)
  have XA := Lib.hid (XA.out.call hg13)
  have lA := XA.out.lt
  obtain ⟨a0, a1, a2⟩ := id XA.out
  go_wp2_with fail
  clear a0 a1 a2 lA
  refine (k_le _).mono ?_; rintro e w14 ⟨rfl, hb14⟩
  have hz14 := hb14.size
  have hg14 : Below w13.heap.size w13 w14 := by (repeat (first | (with_reducible exact Below.refl _ _) | ((with_reducible refine below_alloc ?_ ?_ _); · (first | omega | (simp; done) | (simp; omega))) | ((with_reducible refine below_setCell ?_ ?_ _); · (first | omega | (simp; done) | (simp; omega))) | (with_reducible refine Below.drew ?_) | (with_reducible refine below_drewN ?_ _) | ((with_reducible refine below_call (by assumption) ?_ ?_); · (first | omega | (simp; done) | (simp; omega)))))
  have HB14 := HB13.trans (hg14.mono HB13.size)
  have XA := Lib.hid (XA.out.call hg14)
  have lA := XA.out.lt
  obtain ⟨a0, a1, a2⟩ := id XA.out
  go_wp2_with fail
  clear a0 a1 a2 lA
  refine (k_s1 _).mono ?_; rintro e w15 ⟨rfl, hb15⟩
  have hz15 := hb15.size
  have hg15 : Below w14.heap.size w14 w15 := by (repeat (first | (with_reducible exact Below.refl _ _) | ((with_reducible refine below_alloc ?_ ?_ _); · (first | omega | (simp; done) | (simp; omega))) | ((with_reducible refine below_setCell ?_ ?_ _); · (first | omega | (simp; done) | (simp; omega))) | (with_reducible refine Below.drew ?_) | (with_reducible refine below_drewN ?_ _) | ((with_reducible refine below_call (by assumption) ?_ ?_); · (first | omega | (simp; done) | (simp; omega)))))
  have HB15 := HB14.trans (hg15.mono HB14.size)
  have XA := Lib.hid (XA.out.call hg15)
  have lA := XA.out.lt
  obtain ⟨a0, a1, a2⟩ := id XA.out
  go_wp2_with fail
  clear a0 a1 a2 lA
  refine (k_s2 _).mono ?_; rintro e w16 ⟨rfl, hb16⟩
  have hz16 := hb16.size
  have hg16 : Below w15.heap.size w15 w16 := by (repeat (first | (with_reducible exact Below.refl _ _) | ((with_reducible refine below_alloc ?_ ?_ _); · (first | omega | (simp; done) | (simp; omega))) | ((with_reducible refine below_setCell ?_ ?_ _); · (first | omega | (simp; done) | (simp; omega))) | (with_reducible refine Below.drew ?_) | (with_reducible refine below_drewN ?_ _) | ((with_reducible refine below_call (by assumption) ?_ ?_); · (first | omega | (simp; done) | (simp; omega)))))
  have HB16 := HB15.trans (hg16.mono HB15.size)
  have XA := Lib.hid (XA.out.call hg16)
  have lA := XA.out.lt
  obtain ⟨a0, a1, a2⟩ := id XA.out
  go_wp2_with fail
  clear a0 a1 a2 lA
  refine (k_re _ ((HB16.trans ((show Below w16.heap.size w16 _ by (repeat (first | (with_reducible exact Below.refl _ _) | ((with_reducible refine below_alloc ?_ ?_ _); · (first | omega | (simp; done) | (simp; omega))) | ((with_reducible refine below_setCell ?_ ?_ _); · (first | omega | (simp; done) | (simp; omega))) | (with_reducible refine Below.drew ?_) | (with_reducible refine below_drewN ?_ _) | ((with_reducible refine below_call (by assumption) ?_ ?_); · (first | omega | (simp; done) | (simp; omega)))))).mono HB16.size)) |> fun h => hT.call h)).mono ?_; rintro e w17 ⟨rfl, hb17⟩
  have hz17 := hb17.size
  have hg17 : Below w16.heap.size w16 w17 := by (repeat (first | (with_reducible exact Below.refl _ _) | ((with_reducible refine below_alloc ?_ ?_ _); · (first | omega | (simp; done) | (simp; omega))) | ((with_reducible refine below_setCell ?_ ?_ _); · (first | omega | (simp; done) | (simp; omega))) | (with_reducible refine Below.drew ?_) | (with_reducible refine below_drewN ?_ _) | ((with_reducible refine below_call (by assumption) ?_ ?_); · (first | omega | (simp; done) | (simp; omega)))))
  have HB17 := HB16.trans (hg17.mono HB16.size)
  have XA := Lib.hid (XA.out.call hg17)
  have lA := XA.out.lt
  obtain ⟨a0, a1, a2⟩ := id XA.out
  go_wp2_with fail
  clear a0 a1 a2 lA
  refine (k_ch _ ((HB17.trans ((show Below w17.heap.size w17 _ by (repeat (first | (with_reducible exact Below.refl _ _) | ((with_reducible refine below_alloc ?_ ?_ _); · (first | omega | (simp; done) | (simp; omega))) | ((with_reducible refine below_setCell ?_ ?_ _); · (first | omega | (simp; done) | (simp; omega))) | (with_reducible refine Below.drew ?_) | (with_reducible refine below_drewN ?_ _) | ((with_reducible refine below_call (by assumption) ?_ ?_); · (first | omega | (simp; done) | (simp; omega)))))).mono HB17.size)) |> fun h => hT.call h)).mono ?_; rintro e w18 ⟨rfl, hb18⟩
  have hz18 := hb18.size
  have hg18 : Below w17.heap.size w17 w18 := by (repeat (first | (with_reducible exact Below.refl _ _) | ((with_reducible refine below_alloc ?_ ?_ _); · (first | omega | (simp; done) | (simp; omega))) | ((with_reducible refine below_setCell ?_ ?_ _); · (first | omega | (simp; done) | (simp; omega))) | (with_reducible refine Below.drew ?_) | (with_reducible refine below_drewN ?_ _) | ((with_reducible refine below_call (by assumption) ?_ ?_); · (first | omega | (simp; done) | (simp; omega)))))
  have HB18 := HB17.trans (hg18.mono HB17.size)
  have XA := Lib.hid (XA.out.call hg18)
  have lA := XA.out.lt
  obtain ⟨a0, a1, a2⟩ := id XA.out
  go_wp2_with fail
  clear a0 a1 a2 lA
  go_ret
  exact ⟨rfl, HB18⟩
end Go.Proofs.YtngaklciclbofaaDoor
