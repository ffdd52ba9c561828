/- The closed call that each statement of layer 2 ends with: it is true. -/
import Derived.Test.YtbabgcemkiakmaaDoorUJ
import Derived.Test.YtbabgcemkiakmaaDoorSameI
namespace Go.Proofs.YtbabgcemkiakmaaDoor
open Go.RowKit
open Go.Lib (byteCells)
set_option linter.unusedVariables false
set_option linter.unusedSimpArgs false

theorem Tabs.alloc {w : World} (h : Tabs w) (o : Obj) : Tabs (w.alloc o) := h.call ((Below.refl _ _).alloc (Nat.le_refl _) _)
theorem two_nums {w : World} (a b : Int) : IsI (w.alloc (.cells #[.int .i64 a, .int .i64 b] 3)) (.slice (some ⟨w.heap.size, 0, none⟩) 2 2) [a, b] := by
  refine ⟨_, 2, rfl, fun j hj => ⟨w.heap.size, 0, rfl, ?_⟩⟩
  have : j = 0 ∨ j = 1 := by simp at hj; omega
  rcases this with rfl | rfl <;> simp [go_sem]
theorem aw1 : nxtC (⟨#[195, 169, 120]⟩ : ByteArray).data.toList = 233 ∧ nxtK (⟨#[195, 169, 120]⟩ : ByteArray).data.toList = 2 := by decide +kernel
theorem aw2 : nxtC (⟨#[192, 128]⟩ : ByteArray).data.toList = -1 ∧ nxtK (⟨#[192, 128]⟩ : ByteArray).data.toList = 1 := by decide +kernel
theorem aw3 : putL 8364 = [226, 130, 172] ∧ putE 8364 = 0 := by decide +kernel
theorem aw4 : putE 55296 = 8 := by decide +kernel
theorem aw5 : allL (⟨#[97, 240, 159, 152, 128]⟩ : ByteArray).data.toList = [97, 128512] ∧ okE (⟨#[97, 240, 159, 152, 128]⟩ : ByteArray).data.toList = 0 := by decide +kernel
theorem aw6 : okE (⟨#[97, 255]⟩ : ByteArray).data.toList = 11 := by decide +kernel
theorem aw7 : ofL [97, 233] = [97, 195, 169] ∧ ofE [97, 233] = 0 := by decide +kernel
theorem aw8 : (chs (⟨#[97, 255, 195, 169]⟩ : ByteArray).data.toList).length = 3 := by decide +kernel
theorem aw9 : cutN (chs (⟨#[97, 195, 169]⟩ : ByteArray).data.toList) 2 0 = 1 := by decide +kernel
theorem aw9' : (⟨#[97, 195, 169]⟩ : ByteArray).extract 0 1 = ⟨#[97]⟩ := by decide +kernel
theorem aw10 : lowL (⟨#[97, 66, 90, 195]⟩ : ByteArray).data.toList = [97, 98, 122, 195] := by decide +kernel
theorem aw11 : plB (⟨#[97, 32, 98]⟩ : ByteArray).data.toList = true := by decide +kernel
theorem aw12 : plB (⟨#[97, 127]⟩ : ByteArray).data.toList = false := by decide +kernel
theorem aw13 : okE (⟨#[]⟩ : ByteArray).data.toList = 0 := by decide +kernel
theorem aw14 : sameIB [97, 128512] [97, 128512] = true := by decide +kernel

set_option maxRecDepth 100000 in
set_option maxHeartbeats 8000000 in
theorem awake_any (w : World) (hT : Tabs w) : Calls Tryd.prog 7 #[] w fun e w' => e = .returned (.bool true) ∧ Below w.heap.size w w' := by
  go_enter Tryd.func7, Tryd.ntmps7
  go_wp2_with fail
  refine (next_any ⟨#[195, 169, 120]⟩ _ hT).mono ?_; rintro e w1 ⟨rfl, hb1⟩
  rw [aw1.1, aw1.2]
  have T1 := hT.call hb1
  have hz1 := hb1.size
  go_wp2_with fail
  refine (next_any ⟨#[192, 128]⟩ _ T1).mono ?_; rintro e w2 ⟨rfl, hb2⟩
  rw [aw2.1, aw2.2]
  have T2 := T1.call hb2
  have hz2 := hb2.size
  go_wp2_with fail
  refine (put_any 8364 _).mono ?_; rintro e w3 ⟨rfl, rfl⟩
  rw [aw3.1, aw3.2]
  go_wp2_with fail
  refine (put_any 55296 _).mono ?_; rintro e w3 ⟨rfl, rfl⟩
  rw [aw4]
  go_wp2_with fail
  refine (all_any ⟨#[97, 240, 159, 152, 128]⟩ _ T2 (by decide)).mono ?_; rintro e w3 ⟨v1, rfl, hs1, hb3⟩
  rw [aw5.1] at hs1; rw [aw5.2]
  have T3 := T2.call hb3
  have hz3 := hb3.size
  go_wp2_with fail
  refine (all_any ⟨#[97, 255]⟩ _ T3 (by decide)).mono ?_; rintro e w4 ⟨v2, rfl, hs2, hb4⟩
  rw [aw6]
  have T4 := T3.call hb4
  have hz4 := hb4.size
  clear hs2
  go_wp2_with fail
  refine (of_any _ [97, 233] _ (two_nums 97 233) (by decide)).mono ?_; rintro e w5 ⟨rfl, hb5⟩
  rw [aw7.1, aw7.2]
  have T5 := (T4.alloc _).call hb5
  have hz5 : w4.heap.size ≤ w5.heap.size := by have := hb5.size; simp only [World.size_alloc] at this; omega
  go_wp2_with fail
  have r1 : IsI (w5.alloc (.cells #[.int .i64 97, .int .i64 128512] 3)) v1 [97, 128512] := hs1.reads.call (by (repeat (first | (with_reducible exact Below.refl _ _) | ((with_reducible refine below_alloc ?_ ?_ _); · (first | omega | (simp; done) | (simp; omega))) | ((with_reducible refine below_setCell ?_ ?_ _); · (first | omega | (simp; done) | (simp; omega))) | (with_reducible refine Below.drew ?_) | (with_reducible refine below_drewN ?_ _) | ((with_reducible refine below_call (by assumption) ?_ ?_); · (first | omega | (simp; done) | (simp; omega))))))
  refine (sameInts_any _ _ _ _ _ r1 (two_nums 97 128512) (by decide)).mono ?_; rintro e w6 ⟨rfl, hb6⟩
  rw [aw14]
  have T6 := (T5.alloc _).call hb6
  have hz6 : w5.heap.size ≤ w6.heap.size := by have := hb6.size; simp only [World.size_alloc] at this; omega
  go_wp2_with fail
  refine (count_any ⟨#[97, 255, 195, 169]⟩ _ T6 (by decide)).mono ?_; rintro e w7 ⟨rfl, hb7⟩
  rw [aw8]
  have T7 := T6.call hb7
  have hz7 := hb7.size
  go_wp2_with fail
  refine (cut_any ⟨#[97, 195, 169]⟩ 2 _ T7 (by decide)).mono ?_; rintro e w8 ⟨rfl, hb8⟩
  rw [aw9, aw9']
  have T8 := T7.call hb8
  have hz8 := hb8.size
  go_wp2_with fail
  refine (low_any ⟨#[97, 66, 90, 195]⟩ _ (by decide)).mono ?_; rintro e w9 ⟨rfl, hb9⟩
  rw [aw10]
  have T9 := T8.call hb9
  have hz9 := hb9.size
  go_wp2_with fail
  refine (plain_any ⟨#[97, 32, 98]⟩ _ T9 (by decide)).mono ?_; rintro e w10 ⟨rfl, hb10⟩
  rw [aw11]
  have T10 := T9.call hb10
  have hz10 := hb10.size
  go_wp2_with fail
  refine (plain_any ⟨#[97, 127]⟩ _ T10 (by decide)).mono ?_; rintro e w11 ⟨rfl, hb11⟩
  rw [aw12]
  have T11 := T10.call hb11
  have hz11 := hb11.size
  go_wp2_with fail
  refine (check_any ⟨#[]⟩ _ T11 (by decide)).mono ?_; rintro e w12 ⟨rfl, hb12⟩
  rw [aw13]
  have hz12 := hb12.size
  go_wp2_with fail
  go_ret
  exact ⟨rfl, by (repeat (first | (with_reducible exact Below.refl _ _) | ((with_reducible refine below_alloc ?_ ?_ _); · (first | omega | (simp; done) | (simp; omega))) | ((with_reducible refine below_setCell ?_ ?_ _); · (first | omega | (simp; done) | (simp; omega))) | (with_reducible refine Below.drew ?_) | (with_reducible refine below_drewN ?_ _) | ((with_reducible refine below_call (by assumption) ?_ ?_); · (first | omega | (simp; done) | (simp; omega)))))⟩
end Go.Proofs.YtbabgcemkiakmaaDoor
