/- Layer 11: awake: what every right program frames. -/
import Derived.Test.YtbaclfpkaobggaaR11S
import Derived.Test.YtbaclfpkaobggaaSame1
namespace Go.Proofs.Ytbaclfpkaobggaa
open Go.RowKit
set_option linter.unusedVariables false
set_option linter.unusedSimpArgs false

theorem k_f1 (w : World) : Calls Try.prog 15 #[.string ⟨#[104, 105]⟩] w fun e w' => e = .returned (.tuple #[.string ⟨#[0, 2, 104, 105]⟩, .int .i64 0]) ∧ Below w.heap.size w w' := by
  have h := fput_any ⟨#[104, 105]⟩ w (by decide)
  rw [show fpT ⟨#[104, 105]⟩ = ⟨#[0, 2, 104, 105]⟩ from by decide +kernel] at h
  rw [show fpE ⟨#[104, 105]⟩ = 0 from by decide +kernel] at h
  exact h
theorem k_f2 (w : World) : Calls Try.prog 8 #[.string ⟨#[0, 2, 104, 105, 33]⟩] w fun e w' => e = .returned (.tuple #[.string ⟨#[104, 105]⟩, .int .i64 4, .int .i64 0]) ∧ Below w.heap.size w w' := by
  have h := fget_any ⟨#[0, 2, 104, 105, 33]⟩ w (by decide)
  unfold getV at h
  rw [show gtS (⟨#[0, 2, 104, 105, 33]⟩ : ByteArray).data.toList = ⟨#[104, 105]⟩ from by decide +kernel] at h
  rw [show ((gtN (⟨#[0, 2, 104, 105, 33]⟩ : ByteArray).data.toList : Nat) : Int) = 4 from by decide +kernel] at h
  rw [show gtE (⟨#[0, 2, 104, 105, 33]⟩ : ByteArray).data.toList = 0 from by decide +kernel] at h
  exact h
theorem k_f3 (w : World) : Calls Try.prog 8 #[.string ⟨#[0, 3, 104, 105]⟩] w fun e w' => e = .returned (.tuple #[.string ⟨#[]⟩, .int .i64 0, .int .i64 3]) ∧ Below w.heap.size w w' := by
  have h := fget_any ⟨#[0, 3, 104, 105]⟩ w (by decide)
  unfold getV at h
  rw [show gtS (⟨#[0, 3, 104, 105]⟩ : ByteArray).data.toList = ⟨#[]⟩ from by decide +kernel] at h
  rw [show ((gtN (⟨#[0, 3, 104, 105]⟩ : ByteArray).data.toList : Nat) : Int) = 0 from by decide +kernel] at h
  rw [show gtE (⟨#[0, 3, 104, 105]⟩ : ByteArray).data.toList = 3 from by decide +kernel] at h
  exact h
theorem k_f4 (w : World) : Calls Try.prog 8 #[.string ⟨#[0, 0]⟩] w fun e w' => e = .returned (.tuple #[.string ⟨#[]⟩, .int .i64 0, .int .i64 4]) ∧ Below w.heap.size w w' := by
  have h := fget_any ⟨#[0, 0]⟩ w (by decide)
  unfold getV at h
  rw [show gtS (⟨#[0, 0]⟩ : ByteArray).data.toList = ⟨#[]⟩ from by decide +kernel] at h
  rw [show ((gtN (⟨#[0, 0]⟩ : ByteArray).data.toList : Nat) : Int) = 0 from by decide +kernel] at h
  rw [show gtE (⟨#[0, 0]⟩ : ByteArray).data.toList = 4 from by decide +kernel] at h
  exact h
theorem k_f5 (w : World) : Calls Try.prog 8 #[.string ⟨#[0, 129]⟩] w fun e w' => e = .returned (.tuple #[.string ⟨#[]⟩, .int .i64 0, .int .i64 5]) ∧ Below w.heap.size w w' := by
  have h := fget_any ⟨#[0, 129]⟩ w (by decide)
  unfold getV at h
  rw [show gtS (⟨#[0, 129]⟩ : ByteArray).data.toList = ⟨#[]⟩ from by decide +kernel] at h
  rw [show ((gtN (⟨#[0, 129]⟩ : ByteArray).data.toList : Nat) : Int) = 0 from by decide +kernel] at h
  rw [show gtE (⟨#[0, 129]⟩ : ByteArray).data.toList = 5 from by decide +kernel] at h
  exact h
theorem k_f6 (w : World) : Calls Try.prog 15 #[.string ⟨#[]⟩] w fun e w' => e = .returned (.tuple #[.string ⟨#[]⟩, .int .i64 4]) ∧ Below w.heap.size w w' := by
  have h := fput_any ⟨#[]⟩ w (by decide)
  rw [show fpT ⟨#[]⟩ = ⟨#[]⟩ from by decide +kernel] at h
  rw [show fpE ⟨#[]⟩ = 4 from by decide +kernel] at h
  exact h
theorem k_f7 (w : World) : Calls Try.prog 10 #[.string ⟨#[0, 1, 97, 0, 1, 98]⟩] w (RetS w [⟨#[97]⟩, ⟨#[98]⟩] 0) := by
  have h := fall_any ⟨#[0, 1, 97, 0, 1, 98]⟩ w (by decide)
  rw [show alL (⟨#[0, 1, 97, 0, 1, 98]⟩ : ByteArray).data.toList = [⟨#[97]⟩, ⟨#[98]⟩] from by decide +kernel, show alE (⟨#[0, 1, 97, 0, 1, 98]⟩ : ByteArray).data.toList = 0 from by decide +kernel] at h
  exact h
theorem k_f8 (v : Value) (w : World) (h : IsS w v [⟨#[97]⟩, ⟨#[98]⟩]) : Calls Try.prog 19 #[v] w fun e w' => e = .returned (.tuple #[.string ⟨#[0, 1, 97, 0, 1, 98]⟩, .int .i64 0]) ∧ Below w.heap.size w w' := by
  have h := fjoin_any v [⟨#[97]⟩, ⟨#[98]⟩] w h (by decide) (by decide)
  rw [show jnT [⟨#[97]⟩, ⟨#[98]⟩] = ⟨#[0, 1, 97, 0, 1, 98]⟩ from by decide +kernel, show jnE [⟨#[97]⟩, ⟨#[98]⟩] = 0 from by decide +kernel] at h
  exact h
theorem k_f9 (w : World) : Calls Try.prog 17 #[.string ⟨#[104, 105]⟩] w fun e w' => e = .returned (.int .i64 4) ∧ Below w.heap.size w w' := by
  have h := fsize_any ⟨#[104, 105]⟩ w (by decide)
  rw [show ((fsz ⟨#[104, 105]⟩ : Nat) : Int) = 4 from by decide +kernel] at h
  exact h
theorem k_f10 (w : World) : Calls Try.prog 13 #[.string ⟨#[0, 1, 97, 0, 1, 98, 0]⟩] w fun e w' => e = .returned (.int .i64 2) ∧ Below w.heap.size w w' := by
  have h := fcount_any ⟨#[0, 1, 97, 0, 1, 98, 0]⟩ w (by decide)
  rw [show ((cnt (⟨#[0, 1, 97, 0, 1, 98, 0]⟩ : ByteArray).data.toList : Nat) : Int) = 2 from by decide +kernel] at h
  exact h
theorem k_f11 (v : Value) (w : World) (h : IsS w v [⟨#[97]⟩, ⟨#[98, 99]⟩, ⟨#[100]⟩]) : Calls Try.prog 21 #[v, .int .i64 7] w fun e w' => e = .returned (.int .i64 2) ∧ Below w.heap.size w w' := by
  have h := ffit_any v [⟨#[97]⟩, ⟨#[98, 99]⟩, ⟨#[100]⟩] 7 w h (by decide) (by decide) (by decide) (by decide)
  rw [show ((fitN [⟨#[97]⟩, ⟨#[98, 99]⟩, ⟨#[100]⟩] 7 : Nat) : Int) = 2 from by decide +kernel] at h
  exact h
theorem isS_two (w : World) (b : Nat) (x y : ByteArray) (h0 : w.cell? ⟨b, 0, none⟩ = some (.string x)) (h1 : w.cell? ⟨b, 1, none⟩ = some (.string y)) : IsS w (.slice (some ⟨b, 0, none⟩) 2 2) [x, y] :=
  ⟨_, 2, rfl, fun j hj => ⟨b, 0, rfl, by
    match j, hj with
    | 0, _ => exact h0
    | 1, _ => exact h1⟩⟩
theorem isS_three (w : World) (b : Nat) (x y z : ByteArray) (h0 : w.cell? ⟨b, 0, none⟩ = some (.string x)) (h1 : w.cell? ⟨b, 1, none⟩ = some (.string y)) (h2 : w.cell? ⟨b, 2, none⟩ = some (.string z)) : IsS w (.slice (some ⟨b, 0, none⟩) 3 3) [x, y, z] :=
  ⟨_, 3, rfl, fun j hj => ⟨b, 0, rfl, by
    match j, hj with
    | 0, _ => exact h0
    | 1, _ => exact h1
    | 2, _ => exact h2⟩⟩
set_option maxRecDepth 100000 in
set_option maxHeartbeats 8000000 in
theorem awake_any (w : World) : Calls Try.prog 7 #[] w fun e w' => e = .returned (.bool true) ∧ Below w.heap.size w w' := by
  go_enter Try.func7, Try.ntmps7
  go_wp2_with fail
  refine (k_f1 _).mono ?_; rintro e w1 ⟨rfl, hb1⟩
  have B1 : Below w.heap.size w w1 := by (repeat (first | (with_reducible exact Below.refl _ _) | ((with_reducible refine below_alloc ?_ ?_ _); · (first | omega | (simp; done) | (simp; omega))) | ((with_reducible refine below_setCell ?_ ?_ _); · (first | omega | (simp; done) | (simp; omega))) | (with_reducible refine Below.drew ?_) | (with_reducible refine below_drewN ?_ _) | ((with_reducible refine below_call (by assumption) ?_ ?_); · (first | omega | (simp; done) | (simp; omega)))))
  have z1 := B1.size
  go_wp2_with fail
  refine (k_f2 _).mono ?_; rintro e w2 ⟨rfl, hb2⟩
  have B2 : Below w.heap.size w w2 := by (repeat (first | (with_reducible exact Below.refl _ _) | ((with_reducible refine below_alloc ?_ ?_ _); · (first | omega | (simp; done) | (simp; omega))) | ((with_reducible refine below_setCell ?_ ?_ _); · (first | omega | (simp; done) | (simp; omega))) | (with_reducible refine Below.drew ?_) | (with_reducible refine below_drewN ?_ _) | ((with_reducible refine below_call (by assumption) ?_ ?_); · (first | omega | (simp; done) | (simp; omega)))))
  have z2 := B2.size
  go_wp2_with fail
  refine (k_f3 _).mono ?_; rintro e w3 ⟨rfl, hb3⟩
  have B3 : Below w.heap.size w w3 := by (repeat (first | (with_reducible exact Below.refl _ _) | ((with_reducible refine below_alloc ?_ ?_ _); · (first | omega | (simp; done) | (simp; omega))) | ((with_reducible refine below_setCell ?_ ?_ _); · (first | omega | (simp; done) | (simp; omega))) | (with_reducible refine Below.drew ?_) | (with_reducible refine below_drewN ?_ _) | ((with_reducible refine below_call (by assumption) ?_ ?_); · (first | omega | (simp; done) | (simp; omega)))))
  have z3 := B3.size
  go_wp2_with fail
  refine (k_f4 _).mono ?_; rintro e w4 ⟨rfl, hb4⟩
  have B4 : Below w.heap.size w w4 := by (repeat (first | (with_reducible exact Below.refl _ _) | ((with_reducible refine below_alloc ?_ ?_ _); · (first | omega | (simp; done) | (simp; omega))) | ((with_reducible refine below_setCell ?_ ?_ _); · (first | omega | (simp; done) | (simp; omega))) | (with_reducible refine Below.drew ?_) | (with_reducible refine below_drewN ?_ _) | ((with_reducible refine below_call (by assumption) ?_ ?_); · (first | omega | (simp; done) | (simp; omega)))))
  have z4 := B4.size
  go_wp2_with fail
  refine (k_f5 _).mono ?_; rintro e w5 ⟨rfl, hb5⟩
  have B5 : Below w.heap.size w w5 := by (repeat (first | (with_reducible exact Below.refl _ _) | ((with_reducible refine below_alloc ?_ ?_ _); · (first | omega | (simp; done) | (simp; omega))) | ((with_reducible refine below_setCell ?_ ?_ _); · (first | omega | (simp; done) | (simp; omega))) | (with_reducible refine Below.drew ?_) | (with_reducible refine below_drewN ?_ _) | ((with_reducible refine below_call (by assumption) ?_ ?_); · (first | omega | (simp; done) | (simp; omega)))))
  have z5 := B5.size
  go_wp2_with fail
  refine (k_f6 _).mono ?_; rintro e w6 ⟨rfl, hb6⟩
  have B6 : Below w.heap.size w w6 := by (repeat (first | (with_reducible exact Below.refl _ _) | ((with_reducible refine below_alloc ?_ ?_ _); · (first | omega | (simp; done) | (simp; omega))) | ((with_reducible refine below_setCell ?_ ?_ _); · (first | omega | (simp; done) | (simp; omega))) | (with_reducible refine Below.drew ?_) | (with_reducible refine below_drewN ?_ _) | ((with_reducible refine below_call (by assumption) ?_ ?_); · (first | omega | (simp; done) | (simp; omega)))))
  have z6 := B6.size
  go_wp2_with fail
  refine (k_f7 _).mono ?_; rintro e w7 ⟨v7, rfl, ho7, hb7⟩
  have B7 : Below w.heap.size w w7 := by (repeat (first | (with_reducible exact Below.refl _ _) | ((with_reducible refine below_alloc ?_ ?_ _); · (first | omega | (simp; done) | (simp; omega))) | ((with_reducible refine below_setCell ?_ ?_ _); · (first | omega | (simp; done) | (simp; omega))) | (with_reducible refine Below.drew ?_) | (with_reducible refine below_drewN ?_ _) | ((with_reducible refine below_call (by assumption) ?_ ?_); · (first | omega | (simp; done) | (simp; omega)))))
  have z7 := B7.size
  go_wp2_with fail
  refine (k_f8 _ _ (isS_two _ _ _ _ (by simp [go_sem]) (by simp [go_sem]))).mono ?_; rintro e w8 ⟨rfl, hb8⟩
  have g8 : Below w7.heap.size w7 w8 := below_call hb8 (by simp) (below_alloc (Nat.le_refl _) (Below.refl _ _) _)
  have B8 := below_call g8 B7.size B7
  have z8 := B8.size
  have r7 := (ho7.reads.call g8)
  go_wp2_with fail
  (try simp only [List.append_eq, List.cons_append, List.nil_append])
  go_wp2_with fail
  refine (sameTexts_any _ _ [⟨#[97]⟩, ⟨#[98]⟩] [⟨#[97]⟩, ⟨#[98]⟩] _ (r7.call (below_alloc (Nat.le_refl _) (Below.refl _ _) _)) (isS_two _ _ _ _ (by simp [go_sem]) (by simp [go_sem])) (by decide)).mono ?_; rintro e w9 ⟨rfl, hb9⟩
  have B9 : Below w.heap.size w w9 := by (repeat (first | (with_reducible exact Below.refl _ _) | ((with_reducible refine below_alloc ?_ ?_ _); · (first | omega | (simp; done) | (simp; omega))) | ((with_reducible refine below_setCell ?_ ?_ _); · (first | omega | (simp; done) | (simp; omega))) | (with_reducible refine Below.drew ?_) | (with_reducible refine below_drewN ?_ _) | ((with_reducible refine below_call (by assumption) ?_ ?_); · (first | omega | (simp; done) | (simp; omega)))))
  have z9 := B9.size
  rw [show sameB ([⟨#[97]⟩, ⟨#[98]⟩] : List ByteArray) [⟨#[97]⟩, ⟨#[98]⟩] = true from by decide +kernel]
  go_wp2_with fail
  refine (k_f9 _).mono ?_; rintro e w10 ⟨rfl, hb10⟩
  have B10 : Below w.heap.size w w10 := by (repeat (first | (with_reducible exact Below.refl _ _) | ((with_reducible refine below_alloc ?_ ?_ _); · (first | omega | (simp; done) | (simp; omega))) | ((with_reducible refine below_setCell ?_ ?_ _); · (first | omega | (simp; done) | (simp; omega))) | (with_reducible refine Below.drew ?_) | (with_reducible refine below_drewN ?_ _) | ((with_reducible refine below_call (by assumption) ?_ ?_); · (first | omega | (simp; done) | (simp; omega)))))
  have z10 := B10.size
  go_wp2_with fail
  refine (k_f10 _).mono ?_; rintro e w11 ⟨rfl, hb11⟩
  have B11 : Below w.heap.size w w11 := by (repeat (first | (with_reducible exact Below.refl _ _) | ((with_reducible refine below_alloc ?_ ?_ _); · (first | omega | (simp; done) | (simp; omega))) | ((with_reducible refine below_setCell ?_ ?_ _); · (first | omega | (simp; done) | (simp; omega))) | (with_reducible refine Below.drew ?_) | (with_reducible refine below_drewN ?_ _) | ((with_reducible refine below_call (by assumption) ?_ ?_); · (first | omega | (simp; done) | (simp; omega)))))
  have z11 := B11.size
  go_wp2_with fail
  refine (k_f11 _ _ (isS_three _ _ _ _ _ (by simp [go_sem]) (by simp [go_sem]) (by simp [go_sem]))).mono ?_; rintro e w12 ⟨rfl, hb12⟩
  have B12 : Below w.heap.size w w12 := by (repeat (first | (with_reducible exact Below.refl _ _) | ((with_reducible refine below_alloc ?_ ?_ _); · (first | omega | (simp; done) | (simp; omega))) | ((with_reducible refine below_setCell ?_ ?_ _); · (first | omega | (simp; done) | (simp; omega))) | (with_reducible refine Below.drew ?_) | (with_reducible refine below_drewN ?_ _) | ((with_reducible refine below_call (by assumption) ?_ ?_); · (first | omega | (simp; done) | (simp; omega)))))
  go_wp2
  go_ret
  exact ⟨rfl, B12⟩
end Go.Proofs.Ytbaclfpkaobggaa
