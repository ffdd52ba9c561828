/- Layer 6: awake: what every right program reckons. -/
import Derived.Test.YtaojbpacecedmaaH6C
namespace Go.Proofs.Ytaojbpacecedmaa
open Go.RowKit
set_option linter.unusedVariables false
set_option linter.unusedSimpArgs false

theorem k_of0 : ofL [] = 2166136261 := by decide +kernel
theorem k_ofa : ofL [97] = 3826002220 := by decide +kernel
theorem k_offo : moreL (ofL [102, 111]) [111] = ofL [102, 111, 111] := by decide +kernel
theorem k_pair : pairL [97] [98] = ofL [97, 0, 98] := by decide +kernel
theorem k_next : (nextN 0 : Int) = 11400714819323198485 := by decide +kernel
theorem k_mix : (mixN (nextN 0) : Int) = 16294208416658607535 := by decide +kernel
theorem k_mix0 : (mixN 0 : Int) = 0 := by decide +kernel
theorem k_s1 : belowP 11 4 = 3 := by decide +kernel
theorem k_s0 : belowP 11 0 = 0 := by decide +kernel
theorem k_b : belowP 9223372036854775808 10 = 8 := by decide +kernel
theorem k_sp : spreadP [⟨#[]⟩, ⟨#[97]⟩] 1 = [2] := by decide +kernel

theorem a_draw (w : World) : Calls Try.prog 17 #[.int .u64 0] w fun e w' => e = .returned (.tuple #[.int .u64 11400714819323198485, .int .u64 16294208416658607535]) ∧ Below w.heap.size w w' := by
  have h := draw_any 0 w (by decide)
  rw [k_next, k_mix] at h
  exact h
theorem a_of0 (w : World) : Calls Try.prog 9 #[.string ⟨#[]⟩] w fun e w' => e = .returned (.int .u32 2166136261) ∧ w' = w := by
  have h := of_any ⟨#[]⟩ w (by decide); rw [show (⟨#[]⟩ : ByteArray).data.toList = [] from rfl, k_of0] at h; exact h
theorem a_ofa (w : World) : Calls Try.prog 9 #[.string ⟨#[97]⟩] w fun e w' => e = .returned (.int .u32 3826002220) ∧ w' = w := by
  have h := of_any ⟨#[97]⟩ w (by decide); rw [show (⟨#[97]⟩ : ByteArray).data.toList = [97] from rfl, k_ofa] at h; exact h
theorem a_more (w : World) : Calls Try.prog 11 #[.int .u32 (ofL [102, 111]), .string ⟨#[111]⟩] w fun e w' => e = .returned (.int .u32 (ofL [102, 111, 111])) ∧ w' = w := by
  have h := more_any (ofL [102, 111]) ⟨#[111]⟩ w (by decide); rw [show (⟨#[111]⟩ : ByteArray).data.toList = [111] from rfl, k_offo] at h; exact h
theorem a_pair (w : World) : Calls Try.prog 13 #[.string ⟨#[97]⟩, .string ⟨#[98]⟩] w fun e w' => e = .returned (.int .u32 (ofL [97, 0, 98])) ∧ w' = w := by
  have h := pair_any ⟨#[97]⟩ ⟨#[98]⟩ w (by decide) (by decide); rw [show (⟨#[97]⟩ : ByteArray).data.toList = [97] from rfl, show (⟨#[98]⟩ : ByteArray).data.toList = [98] from rfl, k_pair] at h; exact h
theorem a_mix0 (w : World) : Calls Try.prog 19 #[.int .u64 0] w fun e w' => e = .returned (.int .u64 0) ∧ w' = w := by
  have h := mix_any 0 w (by decide); rw [k_mix0] at h; exact h
theorem a_s1 (w : World) : Calls Try.prog 15 #[.int .u32 11, .int .i64 4] w fun e w' => e = .returned (.int .i64 3) ∧ w' = w := by
  have h := slot_any 11 4 w (by decide) (by decide) (by decide); rw [k_s1] at h; exact h
theorem a_s0 (w : World) : Calls Try.prog 15 #[.int .u32 11, .int .i64 0] w fun e w' => e = .returned (.int .i64 0) ∧ w' = w := by
  have h := slot_any 11 0 w (by decide) (by decide) (by decide); rw [k_s0] at h; exact h
theorem a_b (w : World) : Calls Try.prog 21 #[.int .u64 9223372036854775808, .int .i64 10] w fun e w' => e = .returned (.int .i64 8) ∧ w' = w := by
  have h := below_any 9223372036854775808 10 w (by decide) (by decide); rw [k_b] at h; exact h
theorem a_sp (v : Value) (w : World) (hv : IsS w v [⟨#[]⟩, ⟨#[97]⟩]) : Calls Try.prog 24 #[v, .int .i64 1] w (RetL w [2]) := by
  have h := spread_any v _ 1 w hv (by decide) (by
    intro s hs
    have : s = ⟨#[]⟩ ∨ s = ⟨#[97]⟩ := by simpa using hs
    rcases this with rfl | rfl <;> decide)
  rw [k_sp] at h; exact h

set_option maxRecDepth 100000 in
set_option maxHeartbeats 4000000 in
theorem awake_any (w : World) : Calls Try.prog 8 #[] w fun e w' => e = .returned (.bool true) ∧ Below w.heap.size w w' := by
  go_enter Try.func8, Try.ntmps8
  go_wp2_with fail
  refine (a_draw _).mono ?_; rintro e w1 ⟨rfl, hb1⟩
  have hz1 := hb1.size
  go_wp2_with fail
  refine (a_of0 _).mono ?_; rintro e w2 ⟨rfl, rfl⟩
  go_wp2_with fail
  refine (a_ofa _).mono ?_; rintro e w2 ⟨rfl, rfl⟩
  go_wp2_with fail
  refine (of_any _ _ (by decide)).mono ?_; rintro e w2 ⟨rfl, rfl⟩
  go_wp2_with fail
  refine (a_more _).mono ?_; rintro e w2 ⟨rfl, rfl⟩
  go_wp2_with fail
  refine (of_any _ _ (by decide)).mono ?_; rintro e w2 ⟨rfl, rfl⟩
  go_wp2_with fail
  refine (a_pair _).mono ?_; rintro e w2 ⟨rfl, rfl⟩
  go_wp2_with fail
  refine (of_any _ _ (by decide)).mono ?_; rintro e w2 ⟨rfl, rfl⟩
  go_wp2_with fail
  refine (a_mix0 _).mono ?_; rintro e w2 ⟨rfl, rfl⟩
  go_wp2_with fail
  refine (a_s1 _).mono ?_; rintro e w2 ⟨rfl, rfl⟩
  go_wp2_with fail
  refine (a_s0 _).mono ?_; rintro e w2 ⟨rfl, rfl⟩
  go_wp2_with fail
  refine (a_b _).mono ?_; rintro e w2 ⟨rfl, rfl⟩
  go_wp2_with fail
  have hs : IsS (w2.alloc (.cells #[.string ⟨#[]⟩, .string ⟨#[97]⟩] 9)) (.slice (some ⟨w2.heap.size, 0, none⟩) 2 2) [⟨#[]⟩, ⟨#[97]⟩] := ⟨_, 2, rfl, fun j hj => ⟨w2.heap.size, 0, rfl, by
    have : j = 0 ∨ j = 1 := by simp at hj; omega
    rcases this with rfl | rfl <;> simp [go_sem]⟩⟩
  refine (a_sp _ _ hs).mono ?_; rintro e w3 ⟨v, rfl, ho, hb3⟩
  have hz3 := hb3.size
  simp only [World.size_alloc] at hz3
  obtain ⟨ao, cp, hve⟩ := row_shape (show w3.ownsRow _ _ _ _ _ _ from ho)
  subst hve
  have HO := Lib.hid ho
  clear hs ho
  have hs : IsI (w3.alloc (.cells #[.int .i64 2] 3)) (.slice (some ⟨w3.heap.size, 0, none⟩) 1 1) [2] := ⟨_, 1, rfl, fun j hj => ⟨w3.heap.size, 0, rfl, by
    have : j = 0 := by simp at hj; omega
    subst this; simp [go_sem]⟩⟩
  have ha : Below w3.heap.size w3 (w3.alloc (.cells #[.int .i64 2] 3)) := (Below.refl _ _).alloc (Nat.le_refl _) _
  have H1 := Lib.hid (HO.out.call ha).reads
  have H2 := Lib.hid hs
  clear hs ha
  go_wp2_with fail
  refine (sameInts_any _ _ [2] [2] _ H1.out H2.out (by decide)).mono ?_; rintro e w4 ⟨rfl, hb4⟩
  rw [sameIB_self]
  have hz4 := hb4.size
  simp only [World.size_alloc] at hz4
  go_wp2_with fail
  go_ret
  exact ⟨rfl, by (repeat (first | (with_reducible exact Below.refl _ _) | ((with_reducible refine below_alloc ?_ ?_ _); · (first | omega | (simp; done) | (simp; omega))) | ((with_reducible refine below_setCell ?_ ?_ _); · (first | omega | (simp; done) | (simp; omega))) | (with_reducible refine Below.drew ?_) | (with_reducible refine below_drewN ?_ _) | ((with_reducible refine below_call (by assumption) ?_ ?_); · (first | omega | (simp; done) | (simp; omega)))))⟩
end Go.Proofs.Ytaojbpacecedmaa
