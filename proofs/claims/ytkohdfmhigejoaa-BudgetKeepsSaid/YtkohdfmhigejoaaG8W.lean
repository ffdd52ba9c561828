/- Layer 8: awake: what every right program charges. -/
import Derived.Test.YtkohdfmhigejoaaG8J
import Derived.Test.YtkohdfmhigejoaaG8V
namespace Go.Proofs.Ytkohdfmhigejoaa
open Go.RowKit
set_option linter.unusedVariables false
set_option linter.unusedSimpArgs false

theorem a_new20 (w : World) : Calls Try.prog 16 #[.int .i64 20] w fun e w' => e = .returned (.tuple #[stV 20 0 0 0 0 0 0, .int .i64 0]) ∧ Below w.heap.size w w' := by
  have h := new_any 20 w
  rw [show newC 20 = 20 from by decide +kernel, show newE 20 = 0 from by decide +kernel] at h
  exact h
theorem a_new0 (w : World) : Calls Try.prog 16 #[.int .i64 0] w fun e w' => e = .returned (.tuple #[stV 0 0 0 0 0 0 0, .int .i64 8]) ∧ Below w.heap.size w w' := by
  have h := new_any 0 w
  rw [show newC 0 = 0 from by decide +kernel, show newE 0 = 8 from by decide +kernel] at h
  exact h
theorem a_take2 (w : World) : Calls Try.prog 7 #[stV 20 0 0 0 0 0 0, .int .i64 0, .int .i64 2] w fun e w' => e = .returned (.tuple #[stV 20 2 0 0 0 0 0, .bool true]) ∧ Below w.heap.size w w' := by
  have h := take_any 20 0 0 0 0 0 0 0 2 w
  rw [show takeB 20 0 0 0 0 0 0 0 2 = true from by decide +kernel, show takeD 20 0 0 0 0 0 0 0 2 = 2 from by decide +kernel] at h
  exact h
theorem a_take3 (w : World) : Calls Try.prog 7 #[stV 20 2 0 0 0 0 0, .int .i64 4, .int .i64 3] w fun e w' => e = .returned (.tuple #[stV 20 2 0 0 0 0 0, .bool false]) ∧ Below w.heap.size w w' := by
  have h := take_any 20 2 0 0 0 0 0 4 3 w
  rw [show takeB 20 2 0 0 0 0 0 4 3 = false from by decide +kernel, show takeD 20 2 0 0 0 0 0 4 3 = 0 from by decide +kernel] at h
  exact h
theorem a_give1 (w : World) : Calls Try.prog 9 #[stV 20 2 0 0 0 0 0, .int .i64 0, .int .i64 1] w fun e w' => e = .returned (.tuple #[stV 20 1 0 0 0 0 0, .bool true]) ∧ Below w.heap.size w w' := by
  have h := give_any 20 2 0 0 0 0 0 0 1 w
  rw [show giveB 20 2 0 0 0 0 0 0 1 = true from by decide +kernel, show giveD 20 2 0 0 0 0 0 0 1 = (-1) from by decide +kernel] at h
  exact h
theorem a_give2 (w : World) : Calls Try.prog 9 #[stV 20 1 0 0 0 0 0, .int .i64 0, .int .i64 2] w fun e w' => e = .returned (.tuple #[stV 20 1 0 0 0 0 0, .bool false]) ∧ Below w.heap.size w w' := by
  have h := give_any 20 1 0 0 0 0 0 0 2 w
  rw [show giveB 20 1 0 0 0 0 0 0 2 = false from by decide +kernel, show giveD 20 1 0 0 0 0 0 0 2 = 0 from by decide +kernel] at h
  exact h
theorem a_mrg1 (w : World) : Calls Try.prog 11 #[stV 20 1 0 0 0 0 0, stV 20 1 0 0 0 0 0] w fun e w' => e = .returned (.tuple #[stV 20 2 0 0 0 0 0, .int .i64 0]) ∧ Below w.heap.size w w' := by
  have h := merge_any 20 1 0 0 0 0 0 20 1 0 0 0 0 0 w
  rw [show mrgE 20 1 0 0 0 0 0 20 1 0 0 0 0 0 = 0 from by decide +kernel] at h
  exact h
theorem a_mrg2 (w : World) : Calls Try.prog 11 #[stV 20 2 0 0 0 0 0, stV 20 1 0 0 0 0 0] w fun e w' => e = .returned (.tuple #[stV 0 0 0 0 0 0 0, .int .i64 7]) ∧ Below w.heap.size w w' := by
  have h := merge_any 20 2 0 0 0 0 0 20 1 0 0 0 0 0 w
  rw [show mrgE 20 2 0 0 0 0 0 20 1 0 0 0 0 0 = 7 from by decide +kernel] at h
  exact h
theorem a_left (w : World) : Calls Try.prog 22 #[stV 20 2 0 0 0 0 0] w fun e w' => e = .returned (.int .i64 4) ∧ Below w.heap.size w w' := by
  have h := left_any 20 2 0 0 0 0 0 w
  rw [show leftN 20 2 0 0 0 0 0 = 4 from by decide +kernel] at h
  exact h
theorem a_load (w : World) : Calls Try.prog 24 #[stV 20 2 0 0 0 0 0] w fun e w' => e = .returned (.int .i64 80) ∧ Below w.heap.size w w' := by
  have h := load_any 20 2 0 0 0 0 0 w
  rw [show loadN 20 2 0 0 0 0 0 = 80 from by decide +kernel] at h
  exact h
theorem a_tot2 (w : World) : Calls Try.prog 20 #[stV 20 2 0 0 0 0 0] w fun e w' => e = .returned (.int .i64 16) ∧ Below w.heap.size w w' := by
  have h := tot_any 20 2 0 0 0 0 0 w
  rw [show totN 20 2 0 0 0 0 0 = 16 from by decide +kernel] at h
  exact h
theorem a_tot1 (w : World) : Calls Try.prog 20 #[stV 20 1 0 0 0 0 0] w fun e w' => e = .returned (.int .i64 8) ∧ Below w.heap.size w w' := by
  have h := tot_any 20 1 0 0 0 0 0 w
  rw [show totN 20 1 0 0 0 0 0 = 8 from by decide +kernel] at h
  exact h
theorem a_chk (w : World) : Calls Try.prog 18 #[stV 20 2 0 0 0 0 0] w fun e w' => e = .returned (.int .i64 0) ∧ Below w.heap.size w w' := by
  have h := check_any 20 2 0 0 0 0 0 w
  rw [show chkN 20 2 0 0 0 0 0 = 0 from by decide +kernel] at h
  exact h
theorem a_chk0 (w : World) : Calls Try.prog 18 #[stV 0 0 0 0 0 0 0] w fun e w' => e = .returned (.int .i64 8) ∧ Below w.heap.size w w' := by
  have h := check_any 0 0 0 0 0 0 0 w
  rw [show chkN 0 0 0 0 0 0 0 = 8 from by decide +kernel] at h
  exact h
theorem a_fits (w : World) : Calls Try.prog 13 #[stV 20 2 0 0 0 0 0, .int .i64 4, .int .i64 9] w fun e w' => e = .returned (.int .i64 2) ∧ Below w.heap.size w w' := by
  have h := fits_any 20 2 0 0 0 0 0 4 9 w
  rw [show fitN 20 2 0 0 0 0 0 4 9 = 2 from by decide +kernel] at h
  exact h
theorem a_cost1 (w : World) : Calls Try.prog 26 #[.int .i64 1] w fun e w' => e = .returned (.int .i64 6) ∧ Below w.heap.size w w' := (cost_any 1 w).mono fun e w' h => ⟨h.1, by rw [h.2]; exact Below.refl _ _⟩
theorem a_cost3 (w : World) : Calls Try.prog 26 #[.int .i64 3] w fun e w' => e = .returned (.int .i64 3) ∧ Below w.heap.size w w' := (cost_any 3 w).mono fun e w' h => ⟨h.1, by rw [h.2]; exact Below.refl _ _⟩
theorem a_cost2 (w : World) : Calls Try.prog 26 #[.int .i64 2] w fun e w' => e = .returned (.int .i64 4) ∧ Below w.heap.size w w' := (cost_any 2 w).mono fun e w' h => ⟨h.1, by rw [h.2]; exact Below.refl _ _⟩
theorem a_cost5 (w : World) : Calls Try.prog 26 #[.int .i64 5] w fun e w' => e = .returned (.int .i64 1) ∧ Below w.heap.size w w' := (cost_any 5 w).mono fun e w' h => ⟨h.1, by rw [h.2]; exact Below.refl _ _⟩
theorem a_cost6 (w : World) : Calls Try.prog 26 #[.int .i64 6] w fun e w' => e = .returned (.int .i64 0) ∧ Below w.heap.size w w' := (cost_any 6 w).mono fun e w' h => ⟨h.1, by rw [h.2]; exact Below.refl _ _⟩

set_option maxRecDepth 100000 in
set_option maxHeartbeats 8000000 in
theorem awake_any (w : World) : Calls Try.prog 15 #[] w fun e w' => e = .returned (.bool true) ∧ Below w.heap.size w w' := by
  go_enter Try.func15, Try.ntmps15
  go_wp2_with fail
  refine (a_new20 _).mono ?_; rintro e w1 ⟨rfl, hb1⟩
  have hz1 := hb1.size
  have HB1 := hb1
  go_wp2_with fail
  refine (a_take2 _).mono ?_; rintro e w2 ⟨rfl, hb2⟩
  have hz2 := hb2.size
  have hg2 : Below w1.heap.size w1 w2 := by (repeat (first | (with_reducible exact Below.refl _ _) | ((with_reducible refine below_alloc ?_ ?_ _); · (first | omega | (simp; done) | (simp; omega))) | ((with_reducible refine below_setCell ?_ ?_ _); · (first | omega | (simp; done) | (simp; omega))) | (with_reducible refine Below.drew ?_) | (with_reducible refine below_drewN ?_ _) | ((with_reducible refine below_call (by assumption) ?_ ?_); · (first | omega | (simp; done) | (simp; omega)))))
  have HB2 := HB1.trans (hg2.mono HB1.size)
  have XA : Hid (Bx7 w2 w1.heap.size 20 0 0 0 0 0 0) := Lib.hid (Bx7.call (by simp [Bx7, go_sem]) hb2)
  obtain ⟨a0, a1, a2, a3, a4, a5, a6⟩ := id XA.out
  have lA := XA.out.lt
  go_wp2_with fail
  clear a0 a1 a2 a3 a4 a5 a6
  clear lA
  refine (a_take3 _).mono ?_; rintro e w3 ⟨rfl, hb3⟩
  have hz3 := hb3.size
  have hg3 : Below w2.heap.size w2 w3 := by (repeat (first | (with_reducible exact Below.refl _ _) | ((with_reducible refine below_alloc ?_ ?_ _); · (first | omega | (simp; done) | (simp; omega))) | ((with_reducible refine below_setCell ?_ ?_ _); · (first | omega | (simp; done) | (simp; omega))) | (with_reducible refine Below.drew ?_) | (with_reducible refine below_drewN ?_ _) | ((with_reducible refine below_call (by assumption) ?_ ?_); · (first | omega | (simp; done) | (simp; omega)))))
  have HB3 := HB2.trans (hg3.mono HB2.size)
  have XA := Lib.hid (XA.out.call hg3)
  have XB : Hid (Bx7 w3 w2.heap.size 20 2 0 0 0 0 0) := Lib.hid (Bx7.call (by simp [Bx7, go_sem]) hb3)
  obtain ⟨a0, a1, a2, a3, a4, a5, a6⟩ := id XA.out
  have lA := XA.out.lt
  obtain ⟨b0, b1, b2, b3, b4, b5, b6⟩ := id XB.out
  have lB := XB.out.lt
  go_wp2_with fail
  clear a0 a1 a2 a3 a4 a5 a6 b0 b1 b2 b3 b4 b5 b6
  clear lA lB
  refine (a_give1 _).mono ?_; rintro e w4 ⟨rfl, hb4⟩
  have hz4 := hb4.size
  have hg4 : Below w3.heap.size w3 w4 := by (repeat (first | (with_reducible exact Below.refl _ _) | ((with_reducible refine below_alloc ?_ ?_ _); · (first | omega | (simp; done) | (simp; omega))) | ((with_reducible refine below_setCell ?_ ?_ _); · (first | omega | (simp; done) | (simp; omega))) | (with_reducible refine Below.drew ?_) | (with_reducible refine below_drewN ?_ _) | ((with_reducible refine below_call (by assumption) ?_ ?_); · (first | omega | (simp; done) | (simp; omega)))))
  have HB4 := HB3.trans (hg4.mono HB3.size)
  have XA := Lib.hid (XA.out.call hg4)
  have XB := Lib.hid (XB.out.call hg4)
  obtain ⟨a0, a1, a2, a3, a4, a5, a6⟩ := id XA.out
  have lA := XA.out.lt
  obtain ⟨b0, b1, b2, b3, b4, b5, b6⟩ := id XB.out
  have lB := XB.out.lt
  go_wp2_with fail
  clear a0 a1 a2 a3 a4 a5 a6 b0 b1 b2 b3 b4 b5 b6
  clear lA lB
  refine (a_give2 _).mono ?_; rintro e w5 ⟨rfl, hb5⟩
  have hz5 := hb5.size
  have hg5 : Below w4.heap.size w4 w5 := by (repeat (first | (with_reducible exact Below.refl _ _) | ((with_reducible refine below_alloc ?_ ?_ _); · (first | omega | (simp; done) | (simp; omega))) | ((with_reducible refine below_setCell ?_ ?_ _); · (first | omega | (simp; done) | (simp; omega))) | (with_reducible refine Below.drew ?_) | (with_reducible refine below_drewN ?_ _) | ((with_reducible refine below_call (by assumption) ?_ ?_); · (first | omega | (simp; done) | (simp; omega)))))
  have HB5 := HB4.trans (hg5.mono HB4.size)
  have XA := Lib.hid (XA.out.call hg5)
  have XB := Lib.hid (XB.out.call hg5)
  have XC : Hid (Bx7 w5 w4.heap.size 20 1 0 0 0 0 0) := Lib.hid (Bx7.call (by simp [Bx7, go_sem]) hb5)
  obtain ⟨a0, a1, a2, a3, a4, a5, a6⟩ := id XA.out
  have lA := XA.out.lt
  obtain ⟨b0, b1, b2, b3, b4, b5, b6⟩ := id XB.out
  have lB := XB.out.lt
  obtain ⟨c0, c1, c2, c3, c4, c5, c6⟩ := id XC.out
  have lC := XC.out.lt
  go_wp2_with fail
  clear a0 a1 a2 a3 a4 a5 a6 b0 b1 b2 b3 b4 b5 b6 c0 c1 c2 c3 c4 c5 c6
  clear lA lB lC
  refine (a_mrg1 _).mono ?_; rintro e w6 ⟨rfl, hb6⟩
  have hz6 := hb6.size
  have hg6 : Below w5.heap.size w5 w6 := by (repeat (first | (with_reducible exact Below.refl _ _) | ((with_reducible refine below_alloc ?_ ?_ _); · (first | omega | (simp; done) | (simp; omega))) | ((with_reducible refine below_setCell ?_ ?_ _); · (first | omega | (simp; done) | (simp; omega))) | (with_reducible refine Below.drew ?_) | (with_reducible refine below_drewN ?_ _) | ((with_reducible refine below_call (by assumption) ?_ ?_); · (first | omega | (simp; done) | (simp; omega)))))
  have HB6 := HB5.trans (hg6.mono HB5.size)
  have XA := Lib.hid (XA.out.call hg6)
  have XB := Lib.hid (XB.out.call hg6)
  have XC := Lib.hid (XC.out.call hg6)
  obtain ⟨a0, a1, a2, a3, a4, a5, a6⟩ := id XA.out
  have lA := XA.out.lt
  obtain ⟨b0, b1, b2, b3, b4, b5, b6⟩ := id XB.out
  have lB := XB.out.lt
  obtain ⟨c0, c1, c2, c3, c4, c5, c6⟩ := id XC.out
  have lC := XC.out.lt
  go_wp2_with fail
  clear a0 a1 a2 a3 a4 a5 a6 b0 b1 b2 b3 b4 b5 b6 c0 c1 c2 c3 c4 c5 c6
  clear lA lB lC
  refine (a_mrg2 _).mono ?_; rintro e w7 ⟨rfl, hb7⟩
  have hz7 := hb7.size
  have hg7 : Below w6.heap.size w6 w7 := by (repeat (first | (with_reducible exact Below.refl _ _) | ((with_reducible refine below_alloc ?_ ?_ _); · (first | omega | (simp; done) | (simp; omega))) | ((with_reducible refine below_setCell ?_ ?_ _); · (first | omega | (simp; done) | (simp; omega))) | (with_reducible refine Below.drew ?_) | (with_reducible refine below_drewN ?_ _) | ((with_reducible refine below_call (by assumption) ?_ ?_); · (first | omega | (simp; done) | (simp; omega)))))
  have HB7 := HB6.trans (hg7.mono HB6.size)
  have XA := Lib.hid (XA.out.call hg7)
  have XB := Lib.hid (XB.out.call hg7)
  have XC := Lib.hid (XC.out.call hg7)
  have XD : Hid (Bx7 w7 w6.heap.size 20 2 0 0 0 0 0) := Lib.hid (Bx7.call (by simp [Bx7, go_sem]) hb7)
  obtain ⟨a0, a1, a2, a3, a4, a5, a6⟩ := id XA.out
  have lA := XA.out.lt
  obtain ⟨b0, b1, b2, b3, b4, b5, b6⟩ := id XB.out
  have lB := XB.out.lt
  obtain ⟨c0, c1, c2, c3, c4, c5, c6⟩ := id XC.out
  have lC := XC.out.lt
  obtain ⟨d0, d1, d2, d3, d4, d5, d6⟩ := id XD.out
  have lD := XD.out.lt
  go_wp2_with fail
  clear a0 a1 a2 a3 a4 a5 a6 b0 b1 b2 b3 b4 b5 b6 c0 c1 c2 c3 c4 c5 c6 d0 d1 d2 d3 d4 d5 d6
  clear lA lB lC lD
  refine (a_new0 _).mono ?_; rintro e w8 ⟨rfl, hb8⟩
  have hz8 := hb8.size
  have hg8 : Below w7.heap.size w7 w8 := by (repeat (first | (with_reducible exact Below.refl _ _) | ((with_reducible refine below_alloc ?_ ?_ _); · (first | omega | (simp; done) | (simp; omega))) | ((with_reducible refine below_setCell ?_ ?_ _); · (first | omega | (simp; done) | (simp; omega))) | (with_reducible refine Below.drew ?_) | (with_reducible refine below_drewN ?_ _) | ((with_reducible refine below_call (by assumption) ?_ ?_); · (first | omega | (simp; done) | (simp; omega)))))
  have HB8 := HB7.trans (hg8.mono HB7.size)
  have XA := Lib.hid (XA.out.call hg8)
  have XB := Lib.hid (XB.out.call hg8)
  have XC := Lib.hid (XC.out.call hg8)
  have XD := Lib.hid (XD.out.call hg8)
  obtain ⟨a0, a1, a2, a3, a4, a5, a6⟩ := id XA.out
  have lA := XA.out.lt
  obtain ⟨b0, b1, b2, b3, b4, b5, b6⟩ := id XB.out
  have lB := XB.out.lt
  obtain ⟨c0, c1, c2, c3, c4, c5, c6⟩ := id XC.out
  have lC := XC.out.lt
  obtain ⟨d0, d1, d2, d3, d4, d5, d6⟩ := id XD.out
  have lD := XD.out.lt
  go_wp2_with fail
  clear a0 a1 a2 a3 a4 a5 a6 b0 b1 b2 b3 b4 b5 b6 c0 c1 c2 c3 c4 c5 c6 d0 d1 d2 d3 d4 d5 d6
  clear lA lB lC lD
  refine (a_left _).mono ?_; rintro e w9 ⟨rfl, hb9⟩
  have hz9 := hb9.size
  have hg9 : Below w8.heap.size w8 w9 := by (repeat (first | (with_reducible exact Below.refl _ _) | ((with_reducible refine below_alloc ?_ ?_ _); · (first | omega | (simp; done) | (simp; omega))) | ((with_reducible refine below_setCell ?_ ?_ _); · (first | omega | (simp; done) | (simp; omega))) | (with_reducible refine Below.drew ?_) | (with_reducible refine below_drewN ?_ _) | ((with_reducible refine below_call (by assumption) ?_ ?_); · (first | omega | (simp; done) | (simp; omega)))))
  have HB9 := HB8.trans (hg9.mono HB8.size)
  have XA := Lib.hid (XA.out.call hg9)
  have XB := Lib.hid (XB.out.call hg9)
  have XC := Lib.hid (XC.out.call hg9)
  have XD := Lib.hid (XD.out.call hg9)
  obtain ⟨a0, a1, a2, a3, a4, a5, a6⟩ := id XA.out
  have lA := XA.out.lt
  obtain ⟨b0, b1, b2, b3, b4, b5, b6⟩ := id XB.out
  have lB := XB.out.lt
  obtain ⟨c0, c1, c2, c3, c4, c5, c6⟩ := id XC.out
  have lC := XC.out.lt
  obtain ⟨d0, d1, d2, d3, d4, d5, d6⟩ := id XD.out
  have lD := XD.out.lt
  go_wp2_with fail
  clear a0 a1 a2 a3 a4 a5 a6 b0 b1 b2 b3 b4 b5 b6 c0 c1 c2 c3 c4 c5 c6 d0 d1 d2 d3 d4 d5 d6
  clear lA lB lC lD
  refine (a_load _).mono ?_; rintro e w10 ⟨rfl, hb10⟩
  have hz10 := hb10.size
  have hg10 : Below w9.heap.size w9 w10 := by (repeat (first | (with_reducible exact Below.refl _ _) | ((with_reducible refine below_alloc ?_ ?_ _); · (first | omega | (simp; done) | (simp; omega))) | ((with_reducible refine below_setCell ?_ ?_ _); · (first | omega | (simp; done) | (simp; omega))) | (with_reducible refine Below.drew ?_) | (with_reducible refine below_drewN ?_ _) | ((with_reducible refine below_call (by assumption) ?_ ?_); · (first | omega | (simp; done) | (simp; omega)))))
  have HB10 := HB9.trans (hg10.mono HB9.size)
  have XA := Lib.hid (XA.out.call hg10)
  have XB := Lib.hid (XB.out.call hg10)
  have XC := Lib.hid (XC.out.call hg10)
  have XD := Lib.hid (XD.out.call hg10)
  obtain ⟨a0, a1, a2, a3, a4, a5, a6⟩ := id XA.out
  have lA := XA.out.lt
  obtain ⟨b0, b1, b2, b3, b4, b5, b6⟩ := id XB.out
  have lB := XB.out.lt
  obtain ⟨c0, c1, c2, c3, c4, c5, c6⟩ := id XC.out
  have lC := XC.out.lt
  obtain ⟨d0, d1, d2, d3, d4, d5, d6⟩ := id XD.out
  have lD := XD.out.lt
  go_wp2_with fail
  clear a0 a1 a2 a3 a4 a5 a6 b0 b1 b2 b3 b4 b5 b6 c0 c1 c2 c3 c4 c5 c6 d0 d1 d2 d3 d4 d5 d6
  clear lA lB lC lD
  refine (a_tot2 _).mono ?_; rintro e w11 ⟨rfl, hb11⟩
  have hz11 := hb11.size
  have hg11 : Below w10.heap.size w10 w11 := by (repeat (first | (with_reducible exact Below.refl _ _) | ((with_reducible refine below_alloc ?_ ?_ _); · (first | omega | (simp; done) | (simp; omega))) | ((with_reducible refine below_setCell ?_ ?_ _); · (first | omega | (simp; done) | (simp; omega))) | (with_reducible refine Below.drew ?_) | (with_reducible refine below_drewN ?_ _) | ((with_reducible refine below_call (by assumption) ?_ ?_); · (first | omega | (simp; done) | (simp; omega)))))
  have HB11 := HB10.trans (hg11.mono HB10.size)
  have XA := Lib.hid (XA.out.call hg11)
  have XB := Lib.hid (XB.out.call hg11)
  have XC := Lib.hid (XC.out.call hg11)
  have XD := Lib.hid (XD.out.call hg11)
  obtain ⟨a0, a1, a2, a3, a4, a5, a6⟩ := id XA.out
  have lA := XA.out.lt
  obtain ⟨b0, b1, b2, b3, b4, b5, b6⟩ := id XB.out
  have lB := XB.out.lt
  obtain ⟨c0, c1, c2, c3, c4, c5, c6⟩ := id XC.out
  have lC := XC.out.lt
  obtain ⟨d0, d1, d2, d3, d4, d5, d6⟩ := id XD.out
  have lD := XD.out.lt
  go_wp2_with fail
  clear a0 a1 a2 a3 a4 a5 a6 b0 b1 b2 b3 b4 b5 b6 c0 c1 c2 c3 c4 c5 c6 d0 d1 d2 d3 d4 d5 d6
  clear lA lB lC lD
  refine (a_fits _).mono ?_; rintro e w12 ⟨rfl, hb12⟩
  have hz12 := hb12.size
  have hg12 : Below w11.heap.size w11 w12 := by (repeat (first | (with_reducible exact Below.refl _ _) | ((with_reducible refine below_alloc ?_ ?_ _); · (first | omega | (simp; done) | (simp; omega))) | ((with_reducible refine below_setCell ?_ ?_ _); · (first | omega | (simp; done) | (simp; omega))) | (with_reducible refine Below.drew ?_) | (with_reducible refine below_drewN ?_ _) | ((with_reducible refine below_call (by assumption) ?_ ?_); · (first | omega | (simp; done) | (simp; omega)))))
  have HB12 := HB11.trans (hg12.mono HB11.size)
  have XA := Lib.hid (XA.out.call hg12)
  have XB := Lib.hid (XB.out.call hg12)
  have XC := Lib.hid (XC.out.call hg12)
  have XD := Lib.hid (XD.out.call hg12)
  obtain ⟨a0, a1, a2, a3, a4, a5, a6⟩ := id XA.out
  have lA := XA.out.lt
  obtain ⟨b0, b1, b2, b3, b4, b5, b6⟩ := id XB.out
  have lB := XB.out.lt
  obtain ⟨c0, c1, c2, c3, c4, c5, c6⟩ := id XC.out
  have lC := XC.out.lt
  obtain ⟨d0, d1, d2, d3, d4, d5, d6⟩ := id XD.out
  have lD := XD.out.lt
  go_wp2_with fail
  clear a0 a1 a2 a3 a4 a5 a6 b0 b1 b2 b3 b4 b5 b6 c0 c1 c2 c3 c4 c5 c6 d0 d1 d2 d3 d4 d5 d6
  clear lA lB lC lD
  refine (a_tot1 _).mono ?_; rintro e w13 ⟨rfl, hb13⟩
  have hz13 := hb13.size
  have hg13 : Below w12.heap.size w12 w13 := by (repeat (first | (with_reducible exact Below.refl _ _) | ((with_reducible refine below_alloc ?_ ?_ _); · (first | omega | (simp; done) | (simp; omega))) | ((with_reducible refine below_setCell ?_ ?_ _); · (first | omega | (simp; done) | (simp; omega))) | (with_reducible refine Below.drew ?_) | (with_reducible refine below_drewN ?_ _) | ((with_reducible refine below_call (by assumption) ?_ ?_); · (first | omega | (simp; done) | (simp; omega)))))
  have HB13 := HB12.trans (hg13.mono HB12.size)
  have XA := Lib.hid (XA.out.call hg13)
  have XB := Lib.hid (XB.out.call hg13)
  have XC := Lib.hid (XC.out.call hg13)
  have XD := Lib.hid (XD.out.call hg13)
  obtain ⟨a0, a1, a2, a3, a4, a5, a6⟩ := id XA.out
  have lA := XA.out.lt
  obtain ⟨b0, b1, b2, b3, b4, b5, b6⟩ := id XB.out
  have lB := XB.out.lt
  obtain ⟨c0, c1, c2, c3, c4, c5, c6⟩ := id XC.out
  have lC := XC.out.lt
  obtain ⟨d0, d1, d2, d3, d4, d5, d6⟩ := id XD.out
  have lD := XD.out.lt
  go_wp2_with fail
  clear a0 a1 a2 a3 a4 a5 a6 b0 b1 b2 b3 b4 b5 b6 c0 c1 c2 c3 c4 c5 c6 d0 d1 d2 d3 d4 d5 d6
  clear lA lB lC lD
  refine (a_chk _).mono ?_; rintro e w14 ⟨rfl, hb14⟩
  have hz14 := hb14.size
  have hg14 : Below w13.heap.size w13 w14 := by (repeat (first | (with_reducible exact Below.refl _ _) | ((with_reducible refine below_alloc ?_ ?_ _); · (first | omega | (simp; done) | (simp; omega))) | ((with_reducible refine below_setCell ?_ ?_ _); · (first | omega | (simp; done) | (simp; omega))) | (with_reducible refine Below.drew ?_) | (with_reducible refine below_drewN ?_ _) | ((with_reducible refine below_call (by assumption) ?_ ?_); · (first | omega | (simp; done) | (simp; omega)))))
  have HB14 := HB13.trans (hg14.mono HB13.size)
  have XA := Lib.hid (XA.out.call hg14)
  have XB := Lib.hid (XB.out.call hg14)
  have XC := Lib.hid (XC.out.call hg14)
  have XD := Lib.hid (XD.out.call hg14)
  obtain ⟨a0, a1, a2, a3, a4, a5, a6⟩ := id XA.out
  have lA := XA.out.lt
  obtain ⟨b0, b1, b2, b3, b4, b5, b6⟩ := id XB.out
  have lB := XB.out.lt
  obtain ⟨c0, c1, c2, c3, c4, c5, c6⟩ := id XC.out
  have lC := XC.out.lt
  obtain ⟨d0, d1, d2, d3, d4, d5, d6⟩ := id XD.out
  have lD := XD.out.lt
  go_wp2_with fail
  clear a0 a1 a2 a3 a4 a5 a6 b0 b1 b2 b3 b4 b5 b6 c0 c1 c2 c3 c4 c5 c6 d0 d1 d2 d3 d4 d5 d6
  clear lA lB lC lD
  refine (a_chk0 _).mono ?_; rintro e w15 ⟨rfl, hb15⟩
  have hz15 := hb15.size
  have hg15 : Below w14.heap.size w14 w15 := by (repeat (first | (with_reducible exact Below.refl _ _) | ((with_reducible refine below_alloc ?_ ?_ _); · (first | omega | (simp; done) | (simp; omega))) | ((with_reducible refine below_setCell ?_ ?_ _); · (first | omega | (simp; done) | (simp; omega))) | (with_reducible refine Below.drew ?_) | (with_reducible refine below_drewN ?_ _) | ((with_reducible refine below_call (by assumption) ?_ ?_); · (first | omega | (simp; done) | (simp; omega)))))
  have HB15 := HB14.trans (hg15.mono HB14.size)
  have XA := Lib.hid (XA.out.call hg15)
  have XB := Lib.hid (XB.out.call hg15)
  have XC := Lib.hid (XC.out.call hg15)
  have XD := Lib.hid (XD.out.call hg15)
  obtain ⟨a0, a1, a2, a3, a4, a5, a6⟩ := id XA.out
  have lA := XA.out.lt
  obtain ⟨b0, b1, b2, b3, b4, b5, b6⟩ := id XB.out
  have lB := XB.out.lt
  obtain ⟨c0, c1, c2, c3, c4, c5, c6⟩ := id XC.out
  have lC := XC.out.lt
  obtain ⟨d0, d1, d2, d3, d4, d5, d6⟩ := id XD.out
  have lD := XD.out.lt
  go_wp2_with fail
  clear a0 a1 a2 a3 a4 a5 a6 b0 b1 b2 b3 b4 b5 b6 c0 c1 c2 c3 c4 c5 c6 d0 d1 d2 d3 d4 d5 d6
  clear lA lB lC lD
  refine (a_cost1 _).mono ?_; rintro e w16 ⟨rfl, hb16⟩
  have hz16 := hb16.size
  have hg16 : Below w15.heap.size w15 w16 := by (repeat (first | (with_reducible exact Below.refl _ _) | ((with_reducible refine below_alloc ?_ ?_ _); · (first | omega | (simp; done) | (simp; omega))) | ((with_reducible refine below_setCell ?_ ?_ _); · (first | omega | (simp; done) | (simp; omega))) | (with_reducible refine Below.drew ?_) | (with_reducible refine below_drewN ?_ _) | ((with_reducible refine below_call (by assumption) ?_ ?_); · (first | omega | (simp; done) | (simp; omega)))))
  have HB16 := HB15.trans (hg16.mono HB15.size)
  have XA := Lib.hid (XA.out.call hg16)
  have XB := Lib.hid (XB.out.call hg16)
  have XC := Lib.hid (XC.out.call hg16)
  have XD := Lib.hid (XD.out.call hg16)
  obtain ⟨a0, a1, a2, a3, a4, a5, a6⟩ := id XA.out
  have lA := XA.out.lt
  obtain ⟨b0, b1, b2, b3, b4, b5, b6⟩ := id XB.out
  have lB := XB.out.lt
  obtain ⟨c0, c1, c2, c3, c4, c5, c6⟩ := id XC.out
  have lC := XC.out.lt
  obtain ⟨d0, d1, d2, d3, d4, d5, d6⟩ := id XD.out
  have lD := XD.out.lt
  go_wp2_with fail
  clear a0 a1 a2 a3 a4 a5 a6 b0 b1 b2 b3 b4 b5 b6 c0 c1 c2 c3 c4 c5 c6 d0 d1 d2 d3 d4 d5 d6
  clear lA lB lC lD
  refine (a_cost3 _).mono ?_; rintro e w17 ⟨rfl, hb17⟩
  have hz17 := hb17.size
  have hg17 : Below w16.heap.size w16 w17 := by (repeat (first | (with_reducible exact Below.refl _ _) | ((with_reducible refine below_alloc ?_ ?_ _); · (first | omega | (simp; done) | (simp; omega))) | ((with_reducible refine below_setCell ?_ ?_ _); · (first | omega | (simp; done) | (simp; omega))) | (with_reducible refine Below.drew ?_) | (with_reducible refine below_drewN ?_ _) | ((with_reducible refine below_call (by assumption) ?_ ?_); · (first | omega | (simp; done) | (simp; omega)))))
  have HB17 := HB16.trans (hg17.mono HB16.size)
  have XA := Lib.hid (XA.out.call hg17)
  have XB := Lib.hid (XB.out.call hg17)
  have XC := Lib.hid (XC.out.call hg17)
  have XD := Lib.hid (XD.out.call hg17)
  obtain ⟨a0, a1, a2, a3, a4, a5, a6⟩ := id XA.out
  have lA := XA.out.lt
  obtain ⟨b0, b1, b2, b3, b4, b5, b6⟩ := id XB.out
  have lB := XB.out.lt
  obtain ⟨c0, c1, c2, c3, c4, c5, c6⟩ := id XC.out
  have lC := XC.out.lt
  obtain ⟨d0, d1, d2, d3, d4, d5, d6⟩ := id XD.out
  have lD := XD.out.lt
  go_wp2_with fail
  clear a0 a1 a2 a3 a4 a5 a6 b0 b1 b2 b3 b4 b5 b6 c0 c1 c2 c3 c4 c5 c6 d0 d1 d2 d3 d4 d5 d6
  clear lA lB lC lD
  refine (a_cost2 _).mono ?_; rintro e w18 ⟨rfl, hb18⟩
  have hz18 := hb18.size
  have hg18 : Below w17.heap.size w17 w18 := by (repeat (first | (with_reducible exact Below.refl _ _) | ((with_reducible refine below_alloc ?_ ?_ _); · (first | omega | (simp; done) | (simp; omega))) | ((with_reducible refine below_setCell ?_ ?_ _); · (first | omega | (simp; done) | (simp; omega))) | (with_reducible refine Below.drew ?_) | (with_reducible refine below_drewN ?_ _) | ((with_reducible refine below_call (by assumption) ?_ ?_); · (first | omega | (simp; done) | (simp; omega)))))
  have HB18 := HB17.trans (hg18.mono HB17.size)
  have XA := Lib.hid (XA.out.call hg18)
  have XB := Lib.hid (XB.out.call hg18)
  have XC := Lib.hid (XC.out.call hg18)
  have XD := Lib.hid (XD.out.call hg18)
  obtain ⟨a0, a1, a2, a3, a4, a5, a6⟩ := id XA.out
  have lA := XA.out.lt
  obtain ⟨b0, b1, b2, b3, b4, b5, b6⟩ := id XB.out
  have lB := XB.out.lt
  obtain ⟨c0, c1, c2, c3, c4, c5, c6⟩ := id XC.out
  have lC := XC.out.lt
  obtain ⟨d0, d1, d2, d3, d4, d5, d6⟩ := id XD.out
  have lD := XD.out.lt
  go_wp2_with fail
  clear a0 a1 a2 a3 a4 a5 a6 b0 b1 b2 b3 b4 b5 b6 c0 c1 c2 c3 c4 c5 c6 d0 d1 d2 d3 d4 d5 d6
  clear lA lB lC lD
  refine (a_cost5 _).mono ?_; rintro e w19 ⟨rfl, hb19⟩
  have hz19 := hb19.size
  have hg19 : Below w18.heap.size w18 w19 := by (repeat (first | (with_reducible exact Below.refl _ _) | ((with_reducible refine below_alloc ?_ ?_ _); · (first | omega | (simp; done) | (simp; omega))) | ((with_reducible refine below_setCell ?_ ?_ _); · (first | omega | (simp; done) | (simp; omega))) | (with_reducible refine Below.drew ?_) | (with_reducible refine below_drewN ?_ _) | ((with_reducible refine below_call (by assumption) ?_ ?_); · (first | omega | (simp; done) | (simp; omega)))))
  have HB19 := HB18.trans (hg19.mono HB18.size)
  have XA := Lib.hid (XA.out.call hg19)
  have XB := Lib.hid (XB.out.call hg19)
  have XC := Lib.hid (XC.out.call hg19)
  have XD := Lib.hid (XD.out.call hg19)
  obtain ⟨a0, a1, a2, a3, a4, a5, a6⟩ := id XA.out
  have lA := XA.out.lt
  obtain ⟨b0, b1, b2, b3, b4, b5, b6⟩ := id XB.out
  have lB := XB.out.lt
  obtain ⟨c0, c1, c2, c3, c4, c5, c6⟩ := id XC.out
  have lC := XC.out.lt
  obtain ⟨d0, d1, d2, d3, d4, d5, d6⟩ := id XD.out
  have lD := XD.out.lt
  go_wp2_with fail
  clear a0 a1 a2 a3 a4 a5 a6 b0 b1 b2 b3 b4 b5 b6 c0 c1 c2 c3 c4 c5 c6 d0 d1 d2 d3 d4 d5 d6
  clear lA lB lC lD
  refine (a_cost6 _).mono ?_; rintro e w20 ⟨rfl, hb20⟩
  have hz20 := hb20.size
  have hg20 : Below w19.heap.size w19 w20 := by (repeat (first | (with_reducible exact Below.refl _ _) | ((with_reducible refine below_alloc ?_ ?_ _); · (first | omega | (simp; done) | (simp; omega))) | ((with_reducible refine below_setCell ?_ ?_ _); · (first | omega | (simp; done) | (simp; omega))) | (with_reducible refine Below.drew ?_) | (with_reducible refine below_drewN ?_ _) | ((with_reducible refine below_call (by assumption) ?_ ?_); · (first | omega | (simp; done) | (simp; omega)))))
  have HB20 := HB19.trans (hg20.mono HB19.size)
  have XA := Lib.hid (XA.out.call hg20)
  have XB := Lib.hid (XB.out.call hg20)
  have XC := Lib.hid (XC.out.call hg20)
  have XD := Lib.hid (XD.out.call hg20)
  obtain ⟨a0, a1, a2, a3, a4, a5, a6⟩ := id XA.out
  have lA := XA.out.lt
  obtain ⟨b0, b1, b2, b3, b4, b5, b6⟩ := id XB.out
  have lB := XB.out.lt
  obtain ⟨c0, c1, c2, c3, c4, c5, c6⟩ := id XC.out
  have lC := XC.out.lt
  obtain ⟨d0, d1, d2, d3, d4, d5, d6⟩ := id XD.out
  have lD := XD.out.lt
  go_wp2_with fail
  clear a0 a1 a2 a3 a4 a5 a6 b0 b1 b2 b3 b4 b5 b6 c0 c1 c2 c3 c4 c5 c6 d0 d1 d2 d3 d4 d5 d6
  clear lA lB lC lD
  go_ret
  exact ⟨rfl, HB20⟩
end Go.Proofs.Ytkohdfmhigejoaa
