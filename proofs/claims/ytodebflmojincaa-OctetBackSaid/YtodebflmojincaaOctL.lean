/- The closed call that each statement of layer 1 ends with: it is true. -/
import Derived.Test.YtodebflmojincaaOctK
import Derived.Test.YtodebflmojincaaOctI
import Derived.Test.YtodebflmojincaaOctG
import Derived.Test.YtodebflmojincaaSame1
namespace Go.Proofs.Ytodebflmojincaa
open Go.RowKit
set_option linter.unusedVariables false
set_option linter.unusedSimpArgs false

theorem aw_lay1 : layL 258 2 = [1, 2] ∧ layE 258 2 = 0 := by decide +kernel
theorem aw_lay2 : layE 256 1 = 8 := by decide +kernel
theorem aw_lay3 : layE 1 3 = 2 := by decide +kernel
theorem aw_say : sayL ⟨#[104, 105]⟩ 9 = [2, 104, 105] ∧ sayE ⟨#[104, 105]⟩ 9 = 0 := by decide +kernel
theorem aw_num : numV ⟨#[1, 2, 2, 104, 105, 33]⟩ 0 0 2 = .tuple #[.agg #[.string ⟨#[1, 2, 2, 104, 105, 33]⟩, .int .i64 2, .int .i64 0], .int .i64 258] := by
  have h : numA ⟨#[1, 2, 2, 104, 105, 33]⟩ 0 0 2 = 2 ∧ numB ⟨#[1, 2, 2, 104, 105, 33]⟩ 0 0 2 = 0 ∧ numN ⟨#[1, 2, 2, 104, 105, 33]⟩ 0 0 2 = 258 := by decide +kernel
  unfold numV; rw [h.1, h.2.1, h.2.2]
theorem aw_text : textV ⟨#[1, 2, 2, 104, 105, 33]⟩ 2 0 9 = .tuple #[.agg #[.string ⟨#[1, 2, 2, 104, 105, 33]⟩, .int .i64 5, .int .i64 0], .string ⟨#[104, 105]⟩] := by
  have h : textA ⟨#[1, 2, 2, 104, 105, 33]⟩ 2 0 9 = 5 ∧ textB ⟨#[1, 2, 2, 104, 105, 33]⟩ 2 0 9 = 0 ∧ textS ⟨#[1, 2, 2, 104, 105, 33]⟩ 2 0 9 = ⟨#[104, 105]⟩ := by decide +kernel
  unfold textV; rw [h.1, h.2.1, h.2.2]
theorem aw_left : leftN ⟨#[1, 2, 2, 104, 105, 33]⟩ 5 0 = 1 := by decide +kernel
theorem aw_rest : restV ⟨#[1, 2, 2, 104, 105, 33]⟩ 5 0 = .tuple #[.agg #[.string ⟨#[1, 2, 2, 104, 105, 33]⟩, .int .i64 6, .int .i64 0], .string ⟨#[33]⟩] := by
  have h : restA ⟨#[1, 2, 2, 104, 105, 33]⟩ 5 0 = 6 ∧ chk ⟨#[1, 2, 2, 104, 105, 33]⟩ 5 0 = 0 ∧ restS ⟨#[1, 2, 2, 104, 105, 33]⟩ 5 0 = ⟨#[33]⟩ := by decide +kernel
  unfold restV; rw [h.1, h.2.1, h.2.2]
theorem aw_text2 : textV ⟨#[3, 97, 98]⟩ 0 0 2 = .tuple #[.agg #[.string ⟨#[3, 97, 98]⟩, .int .i64 0, .int .i64 5], .string ⟨#[]⟩] := by
  have h : textA ⟨#[3, 97, 98]⟩ 0 0 2 = 0 ∧ textB ⟨#[3, 97, 98]⟩ 0 0 2 = 5 ∧ textS ⟨#[3, 97, 98]⟩ 0 0 2 = ⟨#[]⟩ := by decide +kernel
  unfold textV; rw [h.1, h.2.1, h.2.2]
theorem aw_unpack : unpL ⟨#[2, 1, 97, 0]⟩ 4 = [⟨#[97]⟩, ⟨#[]⟩] ∧ unpE ⟨#[2, 1, 97, 0]⟩ 4 = 0 := by decide +kernel
theorem aw_pack : packL [⟨#[97]⟩, ⟨#[]⟩] 4 = [2, 1, 97, 0] ∧ packE [⟨#[97]⟩, ⟨#[]⟩] 4 = 0 := by decide +kernel
theorem aw_done : doneN ⟨#[1, 2, 2, 104, 105, 33]⟩ 5 0 = 4 := by decide +kernel
theorem aw_same : sameB [⟨#[97]⟩, ⟨#[]⟩] [⟨#[97]⟩, ⟨#[]⟩] = true := by decide +kernel
theorem two_reads {w : World} : IsS (w.alloc (.cells #[.string ⟨#[97]⟩, .string ⟨#[]⟩] 9)) (.slice (some ⟨w.heap.size, 0, none⟩) 2 2) [⟨#[97]⟩, ⟨#[]⟩] := by
  refine ⟨_, 2, rfl, fun j hj => ⟨w.heap.size, 0, rfl, ?_⟩⟩
  have : j = 0 ∨ j = 1 := by simp at hj; omega
  rcases this with rfl | rfl <;> simp [go_sem]

set_option maxHeartbeats 4000000 in
theorem awake_any (w : World) : Calls Try.prog 9 #[] w fun e w' => e = .returned (.bool true) ∧ Below w.heap.size w w' := by
  have hS6 : (⟨#[1, 2, 2, 104, 105, 33]⟩ : ByteArray).size ≤ 281474976710656 := by decide
  go_enter Try.func9, Try.ntmps9
  go_wp2_with fail
  refine (lay_any 258 2 _ (by omega) (by omega)).mono ?_; rintro e w1 ⟨v1, rfl, hs1, hb1⟩
  rw [aw_lay1.1] at hs1; rw [aw_lay1.2]
  have hz1 : w.heap.size ≤ w1.heap.size := hb1.size
  go_wp2_with fail
  refine (say_any ⟨#[104, 105]⟩ 9 _).mono ?_; rintro e w2 ⟨v2, rfl, hs2, hb2⟩
  rw [aw_say.1] at hs2; rw [aw_say.2]
  have hz2 : w1.heap.size ≤ w2.heap.size := (by have := hb2.size; (try simp only [World.size_alloc, World.size_setCell] at this); omega)
  go_wp2_with fail
  refine (open_any _ _).mono ?_; rintro e w3 ⟨rfl, hb3⟩
  have hz3 : w2.heap.size ≤ w3.heap.size := (by have := hb3.size; (try simp only [World.size_alloc, World.size_setCell] at this); omega)
  go_wp2_with fail
  refine (num_any _ _ _ _ _ (by unfold maxLen; decide)).mono ?_; rintro e w4 ⟨rfl, hb4⟩
  rw [aw_num]
  have hz4 : w3.heap.size ≤ w4.heap.size := (by have := hb4.size; (try simp only [World.size_alloc, World.size_setCell] at this); omega)
  go_wp2_with fail
  have R4 : Row3 (w4.alloc (.cells #[.string ⟨#[1, 2, 2, 104, 105, 33]⟩, .int .i64 2, .int .i64 0] 27)) w4.heap.size (.string ⟨#[1, 2, 2, 104, 105, 33]⟩) (.int .i64 2) (.int .i64 0) := by simp [Row3, go_sem]
  refine (text_any _ _ _ _ _ hS6).mono ?_; rintro e w5 ⟨rfl, hb5⟩
  rw [aw_text]
  have hz5 : w4.heap.size ≤ w5.heap.size := (by have := hb5.size; (try simp only [World.size_alloc, World.size_setCell] at this); omega)
  have R5 := R4.call hb5 (by simp)
  obtain ⟨⟨c0, c1, c2⟩, f0, f1, f2⟩ := id R5
  have R5' := ((R5.set0 (.string ⟨#[1, 2, 2, 104, 105, 33]⟩)).set1 (.int .i64 5)).set2 (.int .i64 0)
  go_wp2_with fail
  refine (left_any _ _ _ _ (by unfold maxLen; decide)).mono ?_; rintro e w6 ⟨rfl, hb6⟩
  rw [aw_left]
  have hz6 : w5.heap.size ≤ w6.heap.size := (by have := hb6.size; (try simp only [World.size_alloc, World.size_setCell] at this); omega)
  have R6 := R5'.call hb6 R5'.lt
  clear c0 c1 c2 f0 f1 f2
  obtain ⟨⟨c0, c1, c2⟩, f0, f1, f2⟩ := id R6
  go_wp2_with fail
  refine (rest_any _ _ _ _ hS6).mono ?_; rintro e w7 ⟨rfl, hb7⟩
  rw [aw_rest]
  have hz7 : w6.heap.size ≤ w7.heap.size := (by have := hb7.size; (try simp only [World.size_alloc, World.size_setCell] at this); omega)
  have R7 := R6.call hb7 R6.lt
  go_wp2_with fail
  have R8 := R7.alloc R7.lt (.cells #[.string ⟨#[1, 2, 2, 104, 105, 33]⟩, .int .i64 6, .int .i64 0] 27)
  refine (lay_any 256 1 _ (by omega) (by omega)).mono ?_; rintro e w8 ⟨v3, rfl, hs3, hb8⟩
  rw [aw_lay2]
  have hz8 : w7.heap.size ≤ w8.heap.size := (by have := hb8.size; (try simp only [World.size_alloc, World.size_setCell] at this); omega)
  have R8 := R8.call hb8 R8.lt
  go_wp2_with fail
  refine (lay_any 1 3 _ (by omega) (by omega)).mono ?_; rintro e w9 ⟨v4, rfl, hs4, hb9⟩
  rw [aw_lay3]
  have hz9 : w8.heap.size ≤ w9.heap.size := (by have := hb9.size; (try simp only [World.size_alloc, World.size_setCell] at this); omega)
  have R9 := R8.call hb9 R8.lt
  go_wp2_with fail
  refine (open_any _ _).mono ?_; rintro e w10 ⟨rfl, hb10⟩
  have hz10 : w9.heap.size ≤ w10.heap.size := (by have := hb10.size; (try simp only [World.size_alloc, World.size_setCell] at this); omega)
  have R10 := R9.call hb10 R9.lt
  go_wp2_with fail
  refine (text_any _ _ _ _ _ (by decide)).mono ?_; rintro e w11 ⟨rfl, hb11⟩
  rw [aw_text2]
  have hz11 : w10.heap.size ≤ w11.heap.size := (by have := hb11.size; (try simp only [World.size_alloc, World.size_setCell] at this); omega)
  have R11 := R10.call hb11 R10.lt
  have T11 : Row3 (w11.alloc (.cells #[.string ⟨#[3, 97, 98]⟩, .int .i64 0, .int .i64 5] 27)) w11.heap.size (.string ⟨#[3, 97, 98]⟩) (.int .i64 0) (.int .i64 5) := by simp [Row3, go_sem]
  go_wp2_with fail
  have R11 := R11.alloc R11.lt (.cells #[.string ⟨#[3, 97, 98]⟩, .int .i64 0, .int .i64 5] 27)
  refine (unpack_any _ 4 _ (by decide)).mono ?_; rintro e w12 ⟨v5, rfl, hs5, hb12⟩
  rw [aw_unpack.1] at hs5; rw [aw_unpack.2]
  have hz12 : w11.heap.size ≤ w12.heap.size := (by have := hb12.size; (try simp only [World.size_alloc, World.size_setCell] at this); omega)
  have R12 := R11.call hb12 R11.lt
  have T12 := T11.call hb12 T11.lt
  go_wp2_with fail
  have R12 := R12.alloc R12.lt (.cells #[.string ⟨#[97]⟩, .string ⟨#[]⟩] 9)
  have T12 := T12.alloc T12.lt (.cells #[.string ⟨#[97]⟩, .string ⟨#[]⟩] 9)
  refine (pack_any _ [⟨#[97]⟩, ⟨#[]⟩] 4 _ two_reads (by decide)).mono ?_; rintro e w13 ⟨v6, rfl, hs6, hb13⟩
  rw [aw_pack.1] at hs6; rw [aw_pack.2]
  have hz13 : w12.heap.size ≤ w13.heap.size := (by have := hb13.size; (try simp only [World.size_alloc, World.size_setCell] at this); omega)
  have R13 := R12.call hb13 R12.lt
  have T13 := T12.call hb13 T12.lt
  have hz0 : w.heap.size ≤ w3.heap.size := by omega
  have b2 : Below w2.heap.size w2 w13 := by (repeat (first | (with_reducible exact Below.refl _ _) | ((with_reducible refine below_alloc ?_ ?_ _); · (first | omega | (simp; done) | (simp; omega))) | ((with_reducible refine below_setCell ?_ ?_ _); · (first | omega | (simp; done) | (simp; omega))) | (with_reducible refine Below.drew ?_) | ((with_reducible refine below_call (by assumption) ?_ ?_); · (first | omega | (simp; done) | (simp; omega)))))
  have b1 : Below w1.heap.size w1 w13 := by (repeat (first | (with_reducible exact Below.refl _ _) | ((with_reducible refine below_alloc ?_ ?_ _); · (first | omega | (simp; done) | (simp; omega))) | ((with_reducible refine below_setCell ?_ ?_ _); · (first | omega | (simp; done) | (simp; omega))) | (with_reducible refine Below.drew ?_) | ((with_reducible refine below_call (by assumption) ?_ ?_); · (first | omega | (simp; done) | (simp; omega)))))
  have q1 := (hs1.call b1).str
  have q2 := (hs2.call b2).str
  clear c0 c1 c2 f0 f1 f2
  obtain ⟨⟨c0, c1, c2⟩, f0, f1, f2⟩ := id R13
  obtain ⟨⟨d0, d1, d2⟩, g0, g1, g2⟩ := id T13
  go_wp2_with fail
  refine (done_any _ _ _ _ (by unfold maxLen; decide)).mono ?_; rintro e w14 ⟨rfl, hb14⟩
  rw [aw_done]
  have hz14 : w13.heap.size ≤ w14.heap.size := hb14.size
  have T14 := T13.call hb14 T13.lt
  clear b1 b2 c0 c1 c2 f0 f1 f2 d0 d1 d2 g0 g1 g2 q1 q2 R4 R5 R5' R6 R7 R8 R9 R10 R11 R12 R13 T11 T12 T13
  obtain ⟨⟨d0, d1, d2⟩, g0, g1, g2⟩ := id T14
  go_wp2_with fail
  have r5 : IsS (w14.alloc (.cells #[.string ⟨#[97]⟩, .string ⟨#[]⟩] 9)) v5 [⟨#[97]⟩, ⟨#[]⟩] := hs5.reads.call (by (repeat (first | (with_reducible exact Below.refl _ _) | ((with_reducible refine below_alloc ?_ ?_ _); · (first | omega | (simp; done) | (simp; omega))) | ((with_reducible refine below_setCell ?_ ?_ _); · (first | omega | (simp; done) | (simp; omega))) | (with_reducible refine Below.drew ?_) | ((with_reducible refine below_call (by assumption) ?_ ?_); · (first | omega | (simp; done) | (simp; omega))))))
  refine (sameTexts_any _ _ _ _ _ r5 two_reads (by decide)).mono ?_; rintro e w15 ⟨rfl, hb15⟩
  rw [aw_same]
  have hz15 : w14.heap.size ≤ w15.heap.size := (by have := hb15.size; simp only [World.size_alloc] at this; omega)
  have b6 : Below w13.heap.size w13 w15 := by (repeat (first | (with_reducible exact Below.refl _ _) | ((with_reducible refine below_alloc ?_ ?_ _); · (first | omega | (simp; done) | (simp; omega))) | ((with_reducible refine below_setCell ?_ ?_ _); · (first | omega | (simp; done) | (simp; omega))) | (with_reducible refine Below.drew ?_) | ((with_reducible refine below_call (by assumption) ?_ ?_); · (first | omega | (simp; done) | (simp; omega)))))
  have q6 := (hs6.call b6).str
  go_wp2_with fail
  go_ret
  exact ⟨rfl, by (repeat (first | (with_reducible exact Below.refl _ _) | ((with_reducible refine below_alloc ?_ ?_ _); · (first | omega | (simp; done) | (simp; omega))) | ((with_reducible refine below_setCell ?_ ?_ _); · (first | omega | (simp; done) | (simp; omega))) | (with_reducible refine Below.drew ?_) | ((with_reducible refine below_call (by assumption) ?_ ?_); · (first | omega | (simp; done) | (simp; omega)))))⟩
end Go.Proofs.Ytodebflmojincaa
