/- Layer 10: awake: what every right program puts, and reads. -/
import Derived.Test.YtiiikfcipnggeaaDoorS10ZS
import Derived.Test.YtiiikfcipnggeaaDoorLawOpen10
namespace Go.Proofs.YtiiikfcipnggeaaDoor
open Go.RowKit
set_option linter.unusedVariables false
set_option linter.unusedSimpArgs false

theorem k_s1 (w : World) (hT : Tabs9 w) : Calls Tryd.prog 7 #[.agg #[.int .u8 7, .string ⟨#[97, 64, 98]⟩, .string ⟨#[]⟩, .string ⟨#[]⟩, .int .i64 0, .int .i64 0, .int .i64 0, .int .i64 0]] w fun e w' => e = .returned (.tuple #[.string ⟨#[7, 3, 97, 64, 98]⟩, .int .i64 0]) ∧ Below w.heap.size w w' := by
  have h := sput_any (⟨7, ⟨#[97, 64, 98]⟩, ⟨#[]⟩, ⟨#[]⟩, 0, 0, 0, 0⟩ : St) w hT ⟨by decide, by decide, by decide⟩
  rw [show putT (⟨7, ⟨#[97, 64, 98]⟩, ⟨#[]⟩, ⟨#[]⟩, 0, 0, 0, 0⟩ : St) = ⟨#[7, 3, 97, 64, 98]⟩ from by decide +kernel] at h
  rw [show chkS (⟨7, ⟨#[97, 64, 98]⟩, ⟨#[]⟩, ⟨#[]⟩, 0, 0, 0, 0⟩ : St) = 0 from by decide +kernel] at h
  exact h
theorem k_s2 (w : World) (hT : Tabs9 w) : Calls Tryd.prog 8 #[.string ⟨#[3, 2, 127]⟩] w fun e w' => e = .returned (.tuple #[.agg #[.int .u8 3, .string ⟨#[]⟩, .string ⟨#[]⟩, .string ⟨#[]⟩, .int .i64 2, .int .i64 (-1), .int .i64 0, .int .i64 0], .int .i64 0]) ∧ Below w.heap.size w w' := by
  have h := sread_any ⟨#[3, 2, 127]⟩ w hT (by decide)
  rw [show rdS ⟨#[3, 2, 127]⟩ = (⟨3, ⟨#[]⟩, ⟨#[]⟩, ⟨#[]⟩, 2, -1, 0, 0⟩ : St) from by decide +kernel] at h
  rw [show rdE ⟨#[3, 2, 127]⟩ = 0 from by decide +kernel] at h
  exact h
theorem k_s3 (w : World) (hT : Tabs9 w) : Calls Tryd.prog 8 #[.string ⟨#[16]⟩] w fun e w' => e = .returned (.tuple #[.agg #[.int .u8 0, .string ⟨#[]⟩, .string ⟨#[]⟩, .string ⟨#[]⟩, .int .i64 0, .int .i64 0, .int .i64 0, .int .i64 0], .int .i64 12]) ∧ Below w.heap.size w w' := by
  have h := sread_any ⟨#[16]⟩ w hT (by decide)
  rw [show rdS ⟨#[16]⟩ = (⟨0, ⟨#[]⟩, ⟨#[]⟩, ⟨#[]⟩, 0, 0, 0, 0⟩ : St) from by decide +kernel] at h
  rw [show rdE ⟨#[16]⟩ = 12 from by decide +kernel] at h
  exact h
theorem k_s4 (w : World) (hT : Tabs9 w) : Calls Tryd.prog 8 #[.string ⟨#[7, 3, 97, 64]⟩] w fun e w' => e = .returned (.tuple #[.agg #[.int .u8 0, .string ⟨#[]⟩, .string ⟨#[]⟩, .string ⟨#[]⟩, .int .i64 0, .int .i64 0, .int .i64 0, .int .i64 0], .int .i64 3]) ∧ Below w.heap.size w w' := by
  have h := sread_any ⟨#[7, 3, 97, 64]⟩ w hT (by decide)
  rw [show rdS ⟨#[7, 3, 97, 64]⟩ = (⟨0, ⟨#[]⟩, ⟨#[]⟩, ⟨#[]⟩, 0, 0, 0, 0⟩ : St) from by decide +kernel] at h
  rw [show rdE ⟨#[7, 3, 97, 64]⟩ = 3 from by decide +kernel] at h
  exact h
theorem k_s5 (w : World) (hT : Tabs9 w) : Calls Tryd.prog 7 #[.agg #[.int .u8 2, .string ⟨#[]⟩, .string ⟨#[]⟩, .string ⟨#[]⟩, .int .i64 0, .int .i64 0, .int .i64 0, .int .i64 1]] w fun e w' => e = .returned (.tuple #[.string ⟨#[]⟩, .int .i64 4]) ∧ Below w.heap.size w w' := by
  have h := sput_any (⟨2, ⟨#[]⟩, ⟨#[]⟩, ⟨#[]⟩, 0, 0, 0, 1⟩ : St) w hT ⟨by decide, by decide, by decide⟩
  rw [show putT (⟨2, ⟨#[]⟩, ⟨#[]⟩, ⟨#[]⟩, 0, 0, 0, 1⟩ : St) = ⟨#[]⟩ from by decide +kernel] at h
  rw [show chkS (⟨2, ⟨#[]⟩, ⟨#[]⟩, ⟨#[]⟩, 0, 0, 0, 1⟩ : St) = 4 from by decide +kernel] at h
  exact h
theorem k_s6 (w : World) (hT : Tabs9 w) : Calls Tryd.prog 7 #[.agg #[.int .u8 7, .string ⟨#[97]⟩, .string ⟨#[]⟩, .string ⟨#[]⟩, .int .i64 0, .int .i64 0, .int .i64 0, .int .i64 0]] w fun e w' => e = .returned (.tuple #[.string ⟨#[]⟩, .int .i64 11]) ∧ Below w.heap.size w w' := by
  have h := sput_any (⟨7, ⟨#[97]⟩, ⟨#[]⟩, ⟨#[]⟩, 0, 0, 0, 0⟩ : St) w hT ⟨by decide, by decide, by decide⟩
  rw [show putT (⟨7, ⟨#[97]⟩, ⟨#[]⟩, ⟨#[]⟩, 0, 0, 0, 0⟩ : St) = ⟨#[]⟩ from by decide +kernel] at h
  rw [show chkS (⟨7, ⟨#[97]⟩, ⟨#[]⟩, ⟨#[]⟩, 0, 0, 0, 0⟩ : St) = 11 from by decide +kernel] at h
  exact h
theorem k_s7 (w : World) (hT : Tabs9 w) : Calls Tryd.prog 8 #[.string ⟨#[2, 120]⟩] w fun e w' => e = .returned (.tuple #[.agg #[.int .u8 0, .string ⟨#[]⟩, .string ⟨#[]⟩, .string ⟨#[]⟩, .int .i64 0, .int .i64 0, .int .i64 0, .int .i64 0], .int .i64 4]) ∧ Below w.heap.size w w' := by
  have h := sread_any ⟨#[2, 120]⟩ w hT (by decide)
  rw [show rdS ⟨#[2, 120]⟩ = (⟨0, ⟨#[]⟩, ⟨#[]⟩, ⟨#[]⟩, 0, 0, 0, 0⟩ : St) from by decide +kernel] at h
  rw [show rdE ⟨#[2, 120]⟩ = 4 from by decide +kernel] at h
  exact h
theorem k_s8 (w : World) : Calls Tryd.prog 12 #[.int .u8 34] w fun e w' => e = .returned (.string ⟨#[117, 114, 115, 112, 110]⟩) ∧ Below w.heap.size w w' := by
  have h := shas_any 34 w
  rw [show hasT ((34 : UInt8).toNat) = ⟨#[117, 114, 115, 112, 110]⟩ from by decide +kernel] at h
  exact h
theorem k_s9 (w : World) : Calls Tryd.prog 13 #[.int .u8 15] w fun e w' => e = .returned (.bool true) ∧ Below w.heap.size w w' := by
  have h := sasks_any 15 w
  rw [show decide (1 ≤ (15 : UInt8).toNat ∧ (15 : UInt8).toNat ≤ 15) = true from by decide +kernel] at h
  exact h
theorem k_s10 (w : World) : Calls Tryd.prog 13 #[.int .u8 32] w fun e w' => e = .returned (.bool false) ∧ Below w.heap.size w w' := by
  have h := sasks_any 32 w
  rw [show decide (1 ≤ (32 : UInt8).toNat ∧ (32 : UInt8).toNat ≤ 15) = false from by decide +kernel] at h
  exact h
theorem k_s11 (w : World) (hT : Tabs9 w) : Calls Tryd.prog 9 #[.agg #[.int .u8 7, .string ⟨#[97, 64, 98]⟩, .string ⟨#[]⟩, .string ⟨#[]⟩, .int .i64 0, .int .i64 0, .int .i64 0, .int .i64 0]] w fun e w' => e = .returned (.int .i64 5) ∧ Below w.heap.size w w' := by
  have h := ssize_any (⟨7, ⟨#[97, 64, 98]⟩, ⟨#[]⟩, ⟨#[]⟩, 0, 0, 0, 0⟩ : St) w hT ⟨by decide, by decide, by decide⟩
  rw [show ((putT (⟨7, ⟨#[97, 64, 98]⟩, ⟨#[]⟩, ⟨#[]⟩, 0, 0, 0, 0⟩ : St)).size : Int) = 5 from by decide +kernel] at h
  exact h
theorem k_s12 (w : World) (hT : Tabs9 w) : Calls Tryd.prog 10 #[.agg #[.int .u8 3, .string ⟨#[]⟩, .string ⟨#[]⟩, .string ⟨#[]⟩, .int .i64 2, .int .i64 (-1), .int .i64 0, .int .i64 0]] w fun e w' => e = .returned (.int .i64 0) ∧ Below w.heap.size w w' := by
  have h := scheck_any (⟨3, ⟨#[]⟩, ⟨#[]⟩, ⟨#[]⟩, 2, -1, 0, 0⟩ : St) w hT ⟨by decide, by decide, by decide⟩
  rw [show chkS (⟨3, ⟨#[]⟩, ⟨#[]⟩, ⟨#[]⟩, 2, -1, 0, 0⟩ : St) = 0 from by decide +kernel] at h
  exact h
theorem k_s13 (w : World) : Calls Tryd.prog 11 #[.agg #[.int .u8 3, .string ⟨#[]⟩, .string ⟨#[]⟩, .string ⟨#[]⟩, .int .i64 2, .int .i64 (-1), .int .i64 0, .int .i64 0], .agg #[.int .u8 3, .string ⟨#[]⟩, .string ⟨#[]⟩, .string ⟨#[]⟩, .int .i64 2, .int .i64 (-1), .int .i64 0, .int .i64 0]] w fun e w' => e = .returned (.bool true) ∧ Below w.heap.size w w' := by
  have h := ssame_any (⟨3, ⟨#[]⟩, ⟨#[]⟩, ⟨#[]⟩, 2, -1, 0, 0⟩ : St) (⟨3, ⟨#[]⟩, ⟨#[]⟩, ⟨#[]⟩, 2, -1, 0, 0⟩ : St) w
  rw [sameS_refl] at h
  exact h
theorem k_s14 (w : World) : Calls Tryd.prog 11 #[.agg #[.int .u8 3, .string ⟨#[]⟩, .string ⟨#[]⟩, .string ⟨#[]⟩, .int .i64 2, .int .i64 (-1), .int .i64 0, .int .i64 0], .agg #[.int .u8 0, .string ⟨#[]⟩, .string ⟨#[]⟩, .string ⟨#[]⟩, .int .i64 0, .int .i64 0, .int .i64 0, .int .i64 0]] w fun e w' => e = .returned (.bool false) ∧ Below w.heap.size w w' := by
  have h := ssame_any (⟨3, ⟨#[]⟩, ⟨#[]⟩, ⟨#[]⟩, 2, -1, 0, 0⟩ : St) (⟨0, ⟨#[]⟩, ⟨#[]⟩, ⟨#[]⟩, 0, 0, 0, 0⟩ : St) w
  rw [show sameS (⟨3, ⟨#[]⟩, ⟨#[]⟩, ⟨#[]⟩, 2, -1, 0, 0⟩ : St) (⟨0, ⟨#[]⟩, ⟨#[]⟩, ⟨#[]⟩, 0, 0, 0, 0⟩ : St) = false from by decide +kernel] at h
  exact h

set_option maxRecDepth 100000 in
set_option maxHeartbeats 8000000 in
theorem awake_any (w : World) (hT : Tabs9 w) : Calls Tryd.prog 6 #[] w fun e w' => e = .returned (.bool true) ∧ Below w.heap.size w w' := by
  have qe : ∀ W, (binOp .eql 26 (.agg #[.int .u8 3, .string ⟨#[]⟩, .string ⟨#[]⟩, .string ⟨#[]⟩, .int .i64 2, .int .i64 (-1), .int .i64 0, .int .i64 0]) (.agg #[.int .u8 3, .string ⟨#[]⟩, .string ⟨#[]⟩, .string ⟨#[]⟩, .int .i64 2, .int .i64 (-1), .int .i64 0, .int .i64 0])).run Tryd.prog W = .ok (.bool true) W := fun W => by
    have h := eq_stz (⟨3, ⟨#[]⟩, ⟨#[]⟩, ⟨#[]⟩, 2, -1, 0, 0⟩ : St) (⟨3, ⟨#[]⟩, ⟨#[]⟩, ⟨#[]⟩, 2, -1, 0, 0⟩ : St) W
    rw [sameS_refl] at h
    exact h
  go_enter Tryd.func6, Tryd.ntmps6
  go_wp2_with fail
  refine (k_s1 _ hT).mono ?_; rintro e w1 ⟨rfl, hb1⟩
  have hz1 := hb1.size
  have HB1 := hb1
  go_wp2_with fail
  refine (k_s2 _ ((HB1.trans ((show Below w1.heap.size w1 _ by (repeat (first | (with_reducible exact Below.refl _ _) | ((with_reducible refine below_alloc ?_ ?_ _); · (first | omega | (simp; done) | (simp; omega))) | ((with_reducible refine below_setCell ?_ ?_ _); · (first | omega | (simp; done) | (simp; omega))) | (with_reducible refine Below.drew ?_) | (with_reducible refine below_drewN ?_ _) | ((with_reducible refine below_call (by assumption) ?_ ?_); · (first | omega | (simp; done) | (simp; omega)))))).mono HB1.size)) |> fun h => hT.call h)).mono ?_; rintro e w2 ⟨rfl, hb2⟩
  have hz2 := hb2.size
  have hg2 : Below w1.heap.size w1 w2 := by (repeat (first | (with_reducible exact Below.refl _ _) | ((with_reducible refine below_alloc ?_ ?_ _); · (first | omega | (simp; done) | (simp; omega))) | ((with_reducible refine below_setCell ?_ ?_ _); · (first | omega | (simp; done) | (simp; omega))) | (with_reducible refine Below.drew ?_) | (with_reducible refine below_drewN ?_ _) | ((with_reducible refine below_call (by assumption) ?_ ?_); · (first | omega | (simp; done) | (simp; omega)))))
  have HB2 := HB1.trans (hg2.mono HB1.size)
  go_wp2_with fail
  refine (k_s3 _ ((HB2.trans ((show Below w2.heap.size w2 _ by (repeat (first | (with_reducible exact Below.refl _ _) | ((with_reducible refine below_alloc ?_ ?_ _); · (first | omega | (simp; done) | (simp; omega))) | ((with_reducible refine below_setCell ?_ ?_ _); · (first | omega | (simp; done) | (simp; omega))) | (with_reducible refine Below.drew ?_) | (with_reducible refine below_drewN ?_ _) | ((with_reducible refine below_call (by assumption) ?_ ?_); · (first | omega | (simp; done) | (simp; omega)))))).mono HB2.size)) |> fun h => hT.call h)).mono ?_; rintro e w3 ⟨rfl, hb3⟩
  have hz3 := hb3.size
  have hg3 : Below w2.heap.size w2 w3 := by (repeat (first | (with_reducible exact Below.refl _ _) | ((with_reducible refine below_alloc ?_ ?_ _); · (first | omega | (simp; done) | (simp; omega))) | ((with_reducible refine below_setCell ?_ ?_ _); · (first | omega | (simp; done) | (simp; omega))) | (with_reducible refine Below.drew ?_) | (with_reducible refine below_drewN ?_ _) | ((with_reducible refine below_call (by assumption) ?_ ?_); · (first | omega | (simp; done) | (simp; omega)))))
  have HB3 := HB2.trans (hg3.mono HB2.size)
  have XA : Hid (Bx8 w3 w2.heap.size (⟨3, ⟨#[]⟩, ⟨#[]⟩, ⟨#[]⟩, 2, -1, 0, 0⟩ : St)) := Lib.hid (Bx8.call (by simp [Bx8, go_sem]) hb3)
  have lA := XA.out.lt
  obtain ⟨a0, a1, a2, a3, a4, a5, a6, a7⟩ := id XA.out
  simp only [UInt8.reduceToNat, Int.cast_ofNat_Int] at a0
  go_wp2_with fail
  clear a0 a1 a2 a3 a4 a5 a6 a7 lA
  refine (k_s4 _ ((HB3.trans ((show Below w3.heap.size w3 _ by (repeat (first | (with_reducible exact Below.refl _ _) | ((with_reducible refine below_alloc ?_ ?_ _); · (first | omega | (simp; done) | (simp; omega))) | ((with_reducible refine below_setCell ?_ ?_ _); · (first | omega | (simp; done) | (simp; omega))) | (with_reducible refine Below.drew ?_) | (with_reducible refine below_drewN ?_ _) | ((with_reducible refine below_call (by assumption) ?_ ?_); · (first | omega | (simp; done) | (simp; omega)))))).mono HB3.size)) |> fun h => hT.call h)).mono ?_; rintro e w4 ⟨rfl, hb4⟩
  have hz4 := hb4.size
  have hg4 : Below w3.heap.size w3 w4 := by (repeat (first | (with_reducible exact Below.refl _ _) | ((with_reducible refine below_alloc ?_ ?_ _); · (first | omega | (simp; done) | (simp; omega))) | ((with_reducible refine below_setCell ?_ ?_ _); · (first | omega | (simp; done) | (simp; omega))) | (with_reducible refine Below.drew ?_) | (with_reducible refine below_drewN ?_ _) | ((with_reducible refine below_call (by assumption) ?_ ?_); · (first | omega | (simp; done) | (simp; omega)))))
  have HB4 := HB3.trans (hg4.mono HB3.size)
  have XA := Lib.hid (XA.out.call hg4)
  have lA := XA.out.lt
  obtain ⟨a0, a1, a2, a3, a4, a5, a6, a7⟩ := id XA.out
  simp only [UInt8.reduceToNat, Int.cast_ofNat_Int] at a0
  go_wp2_with fail
  clear a0 a1 a2 a3 a4 a5 a6 a7 lA
  refine (k_s5 _ ((HB4.trans ((show Below w4.heap.size w4 _ by (repeat (first | (with_reducible exact Below.refl _ _) | ((with_reducible refine below_alloc ?_ ?_ _); · (first | omega | (simp; done) | (simp; omega))) | ((with_reducible refine below_setCell ?_ ?_ _); · (first | omega | (simp; done) | (simp; omega))) | (with_reducible refine Below.drew ?_) | (with_reducible refine below_drewN ?_ _) | ((with_reducible refine below_call (by assumption) ?_ ?_); · (first | omega | (simp; done) | (simp; omega)))))).mono HB4.size)) |> fun h => hT.call h)).mono ?_; rintro e w5 ⟨rfl, hb5⟩
  have hz5 := hb5.size
  have hg5 : Below w4.heap.size w4 w5 := by (repeat (first | (with_reducible exact Below.refl _ _) | ((with_reducible refine below_alloc ?_ ?_ _); · (first | omega | (simp; done) | (simp; omega))) | ((with_reducible refine below_setCell ?_ ?_ _); · (first | omega | (simp; done) | (simp; omega))) | (with_reducible refine Below.drew ?_) | (with_reducible refine below_drewN ?_ _) | ((with_reducible refine below_call (by assumption) ?_ ?_); · (first | omega | (simp; done) | (simp; omega)))))
  have HB5 := HB4.trans (hg5.mono HB4.size)
  have XA := Lib.hid (XA.out.call hg5)
  have lA := XA.out.lt
  obtain ⟨a0, a1, a2, a3, a4, a5, a6, a7⟩ := id XA.out
  simp only [UInt8.reduceToNat, Int.cast_ofNat_Int] at a0
  go_wp2_with fail
  clear a0 a1 a2 a3 a4 a5 a6 a7 lA
  refine (k_s6 _ ((HB5.trans ((show Below w5.heap.size w5 _ by (repeat (first | (with_reducible exact Below.refl _ _) | ((with_reducible refine below_alloc ?_ ?_ _); · (first | omega | (simp; done) | (simp; omega))) | ((with_reducible refine below_setCell ?_ ?_ _); · (first | omega | (simp; done) | (simp; omega))) | (with_reducible refine Below.drew ?_) | (with_reducible refine below_drewN ?_ _) | ((with_reducible refine below_call (by assumption) ?_ ?_); · (first | omega | (simp; done) | (simp; omega)))))).mono HB5.size)) |> fun h => hT.call h)).mono ?_; rintro e w6 ⟨rfl, hb6⟩
  have hz6 := hb6.size
  have hg6 : Below w5.heap.size w5 w6 := by (repeat (first | (with_reducible exact Below.refl _ _) | ((with_reducible refine below_alloc ?_ ?_ _); · (first | omega | (simp; done) | (simp; omega))) | ((with_reducible refine below_setCell ?_ ?_ _); · (first | omega | (simp; done) | (simp; omega))) | (with_reducible refine Below.drew ?_) | (with_reducible refine below_drewN ?_ _) | ((with_reducible refine below_call (by assumption) ?_ ?_); · (first | omega | (simp; done) | (simp; omega)))))
  have HB6 := HB5.trans (hg6.mono HB5.size)
  have XA := Lib.hid (XA.out.call hg6)
  have lA := XA.out.lt
  obtain ⟨a0, a1, a2, a3, a4, a5, a6, a7⟩ := id XA.out
  simp only [UInt8.reduceToNat, Int.cast_ofNat_Int] at a0
  go_wp2_with fail
  clear a0 a1 a2 a3 a4 a5 a6 a7 lA
  refine (k_s7 _ ((HB6.trans ((show Below w6.heap.size w6 _ by (repeat (first | (with_reducible exact Below.refl _ _) | ((with_reducible refine below_alloc ?_ ?_ _); · (first | omega | (simp; done) | (simp; omega))) | ((with_reducible refine below_setCell ?_ ?_ _); · (first | omega | (simp; done) | (simp; omega))) | (with_reducible refine Below.drew ?_) | (with_reducible refine below_drewN ?_ _) | ((with_reducible refine below_call (by assumption) ?_ ?_); · (first | omega | (simp; done) | (simp; omega)))))).mono HB6.size)) |> fun h => hT.call h)).mono ?_; rintro e w7 ⟨rfl, hb7⟩
  have hz7 := hb7.size
  have hg7 : Below w6.heap.size w6 w7 := by (repeat (first | (with_reducible exact Below.refl _ _) | ((with_reducible refine below_alloc ?_ ?_ _); · (first | omega | (simp; done) | (simp; omega))) | ((with_reducible refine below_setCell ?_ ?_ _); · (first | omega | (simp; done) | (simp; omega))) | (with_reducible refine Below.drew ?_) | (with_reducible refine below_drewN ?_ _) | ((with_reducible refine below_call (by assumption) ?_ ?_); · (first | omega | (simp; done) | (simp; omega)))))
  have HB7 := HB6.trans (hg7.mono HB6.size)
  have XA := Lib.hid (XA.out.call hg7)
  have lA := XA.out.lt
  obtain ⟨a0, a1, a2, a3, a4, a5, a6, a7⟩ := id XA.out
  simp only [UInt8.reduceToNat, Int.cast_ofNat_Int] at a0
  go_wp2_with fail
  (try simp only [List.append_eq, List.cons_append, List.nil_append])
  go_wp2_with fail
  clear a0 a1 a2 a3 a4 a5 a6 a7 lA
  refine (k_s8 _).mono ?_; rintro e w8 ⟨rfl, hb8⟩
  have hz8 := hb8.size
  have hg8 : Below w7.heap.size w7 w8 := by (repeat (first | (with_reducible exact Below.refl _ _) | ((with_reducible refine below_alloc ?_ ?_ _); · (first | omega | (simp; done) | (simp; omega))) | ((with_reducible refine below_setCell ?_ ?_ _); · (first | omega | (simp; done) | (simp; omega))) | (with_reducible refine Below.drew ?_) | (with_reducible refine below_drewN ?_ _) | ((with_reducible refine below_call (by assumption) ?_ ?_); · (first | omega | (simp; done) | (simp; omega)))))
  have HB8 := HB7.trans (hg8.mono HB7.size)
  have XA := Lib.hid (XA.out.call hg8)
  have lA := XA.out.lt
  obtain ⟨a0, a1, a2, a3, a4, a5, a6, a7⟩ := id XA.out
  simp only [UInt8.reduceToNat, Int.cast_ofNat_Int] at a0
  go_wp2_with fail
  clear a0 a1 a2 a3 a4 a5 a6 a7 lA
  refine (k_s9 _).mono ?_; rintro e w9 ⟨rfl, hb9⟩
  have hz9 := hb9.size
  have hg9 : Below w8.heap.size w8 w9 := by (repeat (first | (with_reducible exact Below.refl _ _) | ((with_reducible refine below_alloc ?_ ?_ _); · (first | omega | (simp; done) | (simp; omega))) | ((with_reducible refine below_setCell ?_ ?_ _); · (first | omega | (simp; done) | (simp; omega))) | (with_reducible refine Below.drew ?_) | (with_reducible refine below_drewN ?_ _) | ((with_reducible refine below_call (by assumption) ?_ ?_); · (first | omega | (simp; done) | (simp; omega)))))
  have HB9 := HB8.trans (hg9.mono HB8.size)
  have XA := Lib.hid (XA.out.call hg9)
  have lA := XA.out.lt
  obtain ⟨a0, a1, a2, a3, a4, a5, a6, a7⟩ := id XA.out
  simp only [UInt8.reduceToNat, Int.cast_ofNat_Int] at a0
  go_wp2_with fail
  clear a0 a1 a2 a3 a4 a5 a6 a7 lA
  refine (k_s10 _).mono ?_; rintro e w10 ⟨rfl, hb10⟩
  have hz10 := hb10.size
  have hg10 : Below w9.heap.size w9 w10 := by (repeat (first | (with_reducible exact Below.refl _ _) | ((with_reducible refine below_alloc ?_ ?_ _); · (first | omega | (simp; done) | (simp; omega))) | ((with_reducible refine below_setCell ?_ ?_ _); · (first | omega | (simp; done) | (simp; omega))) | (with_reducible refine Below.drew ?_) | (with_reducible refine below_drewN ?_ _) | ((with_reducible refine below_call (by assumption) ?_ ?_); · (first | omega | (simp; done) | (simp; omega)))))
  have HB10 := HB9.trans (hg10.mono HB9.size)
  have XA := Lib.hid (XA.out.call hg10)
  have lA := XA.out.lt
  obtain ⟨a0, a1, a2, a3, a4, a5, a6, a7⟩ := id XA.out
  simp only [UInt8.reduceToNat, Int.cast_ofNat_Int] at a0
  go_wp2_with fail
  clear a0 a1 a2 a3 a4 a5 a6 a7 lA
  refine (k_s11 _ ((HB10.trans ((show Below w10.heap.size w10 _ by (repeat (first | (with_reducible exact Below.refl _ _) | ((with_reducible refine below_alloc ?_ ?_ _); · (first | omega | (simp; done) | (simp; omega))) | ((with_reducible refine below_setCell ?_ ?_ _); · (first | omega | (simp; done) | (simp; omega))) | (with_reducible refine Below.drew ?_) | (with_reducible refine below_drewN ?_ _) | ((with_reducible refine below_call (by assumption) ?_ ?_); · (first | omega | (simp; done) | (simp; omega)))))).mono HB10.size)) |> fun h => hT.call h)).mono ?_; rintro e w11 ⟨rfl, hb11⟩
  have hz11 := hb11.size
  have hg11 : Below w10.heap.size w10 w11 := by (repeat (first | (with_reducible exact Below.refl _ _) | ((with_reducible refine below_alloc ?_ ?_ _); · (first | omega | (simp; done) | (simp; omega))) | ((with_reducible refine below_setCell ?_ ?_ _); · (first | omega | (simp; done) | (simp; omega))) | (with_reducible refine Below.drew ?_) | (with_reducible refine below_drewN ?_ _) | ((with_reducible refine below_call (by assumption) ?_ ?_); · (first | omega | (simp; done) | (simp; omega)))))
  have HB11 := HB10.trans (hg11.mono HB10.size)
  have XA := Lib.hid (XA.out.call hg11)
  have lA := XA.out.lt
  obtain ⟨a0, a1, a2, a3, a4, a5, a6, a7⟩ := id XA.out
  simp only [UInt8.reduceToNat, Int.cast_ofNat_Int] at a0
  go_wp2_with fail
  clear a0 a1 a2 a3 a4 a5 a6 a7 lA
  refine (k_s12 _ ((HB11.trans ((show Below w11.heap.size w11 _ by (repeat (first | (with_reducible exact Below.refl _ _) | ((with_reducible refine below_alloc ?_ ?_ _); · (first | omega | (simp; done) | (simp; omega))) | ((with_reducible refine below_setCell ?_ ?_ _); · (first | omega | (simp; done) | (simp; omega))) | (with_reducible refine Below.drew ?_) | (with_reducible refine below_drewN ?_ _) | ((with_reducible refine below_call (by assumption) ?_ ?_); · (first | omega | (simp; done) | (simp; omega)))))).mono HB11.size)) |> fun h => hT.call h)).mono ?_; rintro e w12 ⟨rfl, hb12⟩
  have hz12 := hb12.size
  have hg12 : Below w11.heap.size w11 w12 := by (repeat (first | (with_reducible exact Below.refl _ _) | ((with_reducible refine below_alloc ?_ ?_ _); · (first | omega | (simp; done) | (simp; omega))) | ((with_reducible refine below_setCell ?_ ?_ _); · (first | omega | (simp; done) | (simp; omega))) | (with_reducible refine Below.drew ?_) | (with_reducible refine below_drewN ?_ _) | ((with_reducible refine below_call (by assumption) ?_ ?_); · (first | omega | (simp; done) | (simp; omega)))))
  have HB12 := HB11.trans (hg12.mono HB11.size)
  have XA := Lib.hid (XA.out.call hg12)
  have lA := XA.out.lt
  obtain ⟨a0, a1, a2, a3, a4, a5, a6, a7⟩ := id XA.out
  simp only [UInt8.reduceToNat, Int.cast_ofNat_Int] at a0
  go_wp2_with fail
  clear a0 a1 a2 a3 a4 a5 a6 a7 lA
  refine (k_s13 _).mono ?_; rintro e w13 ⟨rfl, hb13⟩
  have hz13 := hb13.size
  have hg13 : Below w12.heap.size w12 w13 := by (repeat (first | (with_reducible exact Below.refl _ _) | ((with_reducible refine below_alloc ?_ ?_ _); · (first | omega | (simp; done) | (simp; omega))) | ((with_reducible refine below_setCell ?_ ?_ _); · (first | omega | (simp; done) | (simp; omega))) | (with_reducible refine Below.drew ?_) | (with_reducible refine below_drewN ?_ _) | ((with_reducible refine below_call (by assumption) ?_ ?_); · (first | omega | (simp; done) | (simp; omega)))))
  have HB13 := HB12.trans (hg13.mono HB12.size)
  have XA := Lib.hid (XA.out.call hg13)
  have lA := XA.out.lt
  obtain ⟨a0, a1, a2, a3, a4, a5, a6, a7⟩ := id XA.out
  simp only [UInt8.reduceToNat, Int.cast_ofNat_Int] at a0
  go_wp2_with fail
  clear a0 a1 a2 a3 a4 a5 a6 a7 lA
  refine (k_s14 _).mono ?_; rintro e w14 ⟨rfl, hb14⟩
  have hz14 := hb14.size
  have hg14 : Below w13.heap.size w13 w14 := by (repeat (first | (with_reducible exact Below.refl _ _) | ((with_reducible refine below_alloc ?_ ?_ _); · (first | omega | (simp; done) | (simp; omega))) | ((with_reducible refine below_setCell ?_ ?_ _); · (first | omega | (simp; done) | (simp; omega))) | (with_reducible refine Below.drew ?_) | (with_reducible refine below_drewN ?_ _) | ((with_reducible refine below_call (by assumption) ?_ ?_); · (first | omega | (simp; done) | (simp; omega)))))
  have HB14 := HB13.trans (hg14.mono HB13.size)
  have XA := Lib.hid (XA.out.call hg14)
  have lA := XA.out.lt
  obtain ⟨a0, a1, a2, a3, a4, a5, a6, a7⟩ := id XA.out
  simp only [UInt8.reduceToNat, Int.cast_ofNat_Int] at a0
  go_wp2
  go_ret
  exact ⟨rfl, HB14⟩
end Go.Proofs.YtiiikfcipnggeaaDoor
