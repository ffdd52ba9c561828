/- The contracts of the document's Text, Rest and Done. -/
import Derived.Test.YtodebflmojincaaOctC
import Derived.Test.YtodebflmojincaaOctE
namespace Go.Proofs.Ytodebflmojincaa
open Go.RowKit
set_option linter.unusedVariables false
set_option linter.unusedSimpArgs false

set_option maxHeartbeats 1000000 in
theorem rtext_any (s : ByteArray) (a b m : Int) (w : World) (hs : s.size ≤ 281474976710656) :
    Calls Try.prog 14 #[.agg #[.string s, .int .i64 a, .int .i64 b], .int .i64 m] w fun e w' => e = .returned (textV s a b m) ∧ Below w.heap.size w w' := by
  have hm : s.size ≤ maxLen := by unfold maxLen; omega
  by_cases hc : chk s a b = 0
  · obtain ⟨rfl, h0, h1⟩ : b = 0 ∧ 0 ≤ a ∧ a ≤ s.size := chk_zero hc
    obtain ⟨a, rfl⟩ : ∃ x : Nat, a = x := ⟨a.toNat, by omega⟩
    by_cases hl : (1 : Int) ≤ (s.size : Int) - a
    · have Y : Hid (numV s a 0 1 = .tuple #[.agg #[.string s, .int .i64 (a + 1), .int .i64 0], .int .i64 (tlen s a)]) := by
        have := numV_ok hc (by decide) hl
        simp only [Int.toNat_natCast, show (1 : Int).toNat = 1 from rfl, be_tlen] at this
        exact this
      have hL : Hid (leftN s (a + 1) 0 = s.size - (a + 1)) := leftN_ok (chk_ok (by omega) (by omega))
      have Hc := Lib.hid hc
      have ht := tlen_lt (s := s) (a := a) (by omega)
      clear hc
      by_cases h2 : m < tlen s a
      · have Z := Lib.hid (textV_long Hc.out hl (by simpa using h2))
        go_enter Try.func14, Try.ntmps14
        go_wp2_with (first | (go_at_call 12; refine (rnum_any _ _ _ _ _ hm).mono ?_; rintro e w1 ⟨rfl, hb1⟩; rw [Y.out]; obtain ⟨hk1, hf1, hz1⟩ := bcellN (n := w.heap.size + 3) (by (try simp only [World.size_drew, World.size_alloc, World.size_setCell]); omega) hb1; have hz1_0 : w.heap.size < w1.heap.size := (by omega); have hz1_1 : w.heap.size + 1 < w1.heap.size := (by omega); have hz1_2 : w.heap.size + 2 < w1.heap.size := (by omega)) | (go_at_call 37; refine (with_any _ _ _ _ _).mono ?_; rintro e w3 ⟨rfl, hb3⟩; obtain ⟨hk3, hf3, hz3⟩ := bcellN (n := w.heap.size + 3) (by (try simp only [World.size_drew, World.size_alloc, World.size_setCell]); omega) hb3; have hz3_0 : w.heap.size < w3.heap.size := (by omega); have hz3_1 : w.heap.size + 1 < w3.heap.size := (by omega); have hz3_2 : w.heap.size + 2 < w3.heap.size := (by omega)))
        refine bodyPost_ret (v := .tuple #[.agg #[.string s, .int .i64 a, .int .i64 5], .string ⟨#[]⟩]) (by simp [results, Try.results14, go_sem, hk1, hz1_0, hz1_1, hz1_2, hk3, hz3_0, hz3_1, hz3_2]) rfl ⟨by rw [Z.out], ?_⟩
        (repeat (first | (with_reducible exact Below.refl _ _) | ((with_reducible refine below_alloc ?_ ?_ _); · (first | omega | (simp; done) | (simp; omega))) | ((with_reducible refine below_setCell ?_ ?_ _); · (first | omega | (simp; done) | (simp; omega))) | (with_reducible refine Below.drew ?_) | ((with_reducible refine below_call (by assumption) ?_ ?_); · (first | omega | (simp; done) | (simp; omega)))))
      · by_cases h3 : (s.size : Int) - (a + 1) < tlen s a
        · have Z := Lib.hid (textV_short Hc.out hl (by simpa using h2) (by simpa using h3))
          have h3' : leftN s (a + 1) 0 < tlen s a := by rw [hL.out]; exact h3
          go_enter Try.func14, Try.ntmps14
          go_wp2_with (first | (go_at_call 12; refine (rnum_any _ _ _ _ _ hm).mono ?_; rintro e w1 ⟨rfl, hb1⟩; rw [Y.out]; obtain ⟨hk1, hf1, hz1⟩ := bcellN (n := w.heap.size + 3) (by (try simp only [World.size_drew, World.size_alloc, World.size_setCell]); omega) hb1; have hz1_0 : w.heap.size < w1.heap.size := (by omega); have hz1_1 : w.heap.size + 1 < w1.heap.size := (by omega); have hz1_2 : w.heap.size + 2 < w1.heap.size := (by omega)) | (go_at_call 19; refine (rleft_any _ _ _ _ hm).mono ?_; rintro e w2 ⟨rfl, hb2⟩; obtain ⟨hk2, hf2, hz2⟩ := bcellN (n := w.heap.size + 3) (by (try simp only [World.size_drew, World.size_alloc, World.size_setCell]); omega) hb2; have hz2_0 : w.heap.size < w2.heap.size := (by omega); have hz2_1 : w.heap.size + 1 < w2.heap.size := (by omega); have hz2_2 : w.heap.size + 2 < w2.heap.size := (by omega)) | (go_at_call 37; refine (with_any _ _ _ _ _).mono ?_; rintro e w3 ⟨rfl, hb3⟩; obtain ⟨hk3, hf3, hz3⟩ := bcellN (n := w.heap.size + 3) (by (try simp only [World.size_drew, World.size_alloc, World.size_setCell]); omega) hb3; have hz3_0 : w.heap.size < w3.heap.size := (by omega); have hz3_1 : w.heap.size + 1 < w3.heap.size := (by omega); have hz3_2 : w.heap.size + 2 < w3.heap.size := (by omega)))
          refine bodyPost_ret (v := .tuple #[.agg #[.string s, .int .i64 a, .int .i64 3], .string ⟨#[]⟩]) (by simp [results, Try.results14, go_sem, hk1, hz1_0, hz1_1, hz1_2, hk2, hz2_0, hz2_1, hz2_2, hk3, hz3_0, hz3_1, hz3_2]) rfl ⟨by rw [Z.out], ?_⟩
          (repeat (first | (with_reducible exact Below.refl _ _) | ((with_reducible refine below_alloc ?_ ?_ _); · (first | omega | (simp; done) | (simp; omega))) | ((with_reducible refine below_setCell ?_ ?_ _); · (first | omega | (simp; done) | (simp; omega))) | (with_reducible refine Below.drew ?_) | ((with_reducible refine below_call (by assumption) ?_ ?_); · (first | omega | (simp; done) | (simp; omega)))))
        · have Z := Lib.hid (textV_ok (m := m) Hc.out hl (by omega) (by omega))
          have h3' : (tlen s a : Int) ≤ leftN s (a + 1) 0 := by rw [hL.out]; omega
          have hp : ((a : Int) + 1 + tlen s a) ≤ s.size := by omega
          have hrs := fun W => run_slice_string (P := Try.prog) W 9 s .i64 .i64 ((a : Int) + 1) ((a : Int) + 1 + tlen s a) Try.underlying9 (by omega) (by omega) (by omega)
          rw [show ((a : Int) + 1).toNat = a + 1 by omega, show ((a : Int) + 1 + tlen s a).toNat = a + 1 + tlen s a by omega] at hrs
          go_enter Try.func14, Try.ntmps14
          go_wp2_with (first | (go_at_call 12; refine (rnum_any _ _ _ _ _ hm).mono ?_; rintro e w1 ⟨rfl, hb1⟩; rw [Y.out]; obtain ⟨hk1, hf1, hz1⟩ := bcellN (n := w.heap.size + 3) (by (try simp only [World.size_drew, World.size_alloc, World.size_setCell]); omega) hb1; have hz1_0 : w.heap.size < w1.heap.size := (by omega); have hz1_1 : w.heap.size + 1 < w1.heap.size := (by omega); have hz1_2 : w.heap.size + 2 < w1.heap.size := (by omega)) | (go_at_call 19; refine (rleft_any _ _ _ _ hm).mono ?_; rintro e w2 ⟨rfl, hb2⟩; obtain ⟨hk2, hf2, hz2⟩ := bcellN (n := w.heap.size + 3) (by (try simp only [World.size_drew, World.size_alloc, World.size_setCell]); omega) hb2; have hz2_0 : w.heap.size < w2.heap.size := (by omega); have hz2_1 : w.heap.size + 1 < w2.heap.size := (by omega); have hz2_2 : w.heap.size + 2 < w2.heap.size := (by omega)))
          refine bodyPost_ret (v := .tuple #[.agg #[.string s, .int .i64 (a + 1 + tlen s a), .int .i64 0], .string (s.extract (a + 1) (a + 1 + tlen s a))]) (by simp [results, Try.results14, go_sem, hk1, hz1_0, hz1_1, hz1_2, hk2, hz2_0, hz2_1, hz2_2]) rfl ⟨by rw [Z.out], ?_⟩
          (repeat (first | (with_reducible exact Below.refl _ _) | ((with_reducible refine below_alloc ?_ ?_ _); · (first | omega | (simp; done) | (simp; omega))) | ((with_reducible refine below_setCell ?_ ?_ _); · (first | omega | (simp; done) | (simp; omega))) | (with_reducible refine Below.drew ?_) | ((with_reducible refine below_call (by assumption) ?_ ?_); · (first | omega | (simp; done) | (simp; omega)))))
    · have Y := Lib.hid (numV_cut hc (by decide) (show (s.size : Int) - a < 1 by omega))
      have Z := Lib.hid (textV_cut (m := m) hc (show (s.size : Int) - a < 1 by omega))
      clear hc
      go_enter Try.func14, Try.ntmps14
      go_wp2_with (go_at_call 12; refine (rnum_any _ _ _ _ _ hm).mono ?_; rintro e w1 ⟨rfl, hb1⟩; rw [Y.out]; obtain ⟨hk1, hf1, hz1⟩ := bcellN (n := w.heap.size + 3) (by (try simp only [World.size_drew, World.size_alloc, World.size_setCell]); omega) hb1; have hz1_0 : w.heap.size < w1.heap.size := (by omega); have hz1_1 : w.heap.size + 1 < w1.heap.size := (by omega); have hz1_2 : w.heap.size + 2 < w1.heap.size := (by omega))
      refine bodyPost_ret (v := .tuple #[.agg #[.string s, .int .i64 a, .int .i64 3], .string ⟨#[]⟩]) (by simp [results, Try.results14, go_sem, hk1, hz1_0, hz1_1, hz1_2]) rfl ⟨by rw [Z.out], ?_⟩
      (repeat (first | (with_reducible exact Below.refl _ _) | ((with_reducible refine below_alloc ?_ ?_ _); · (first | omega | (simp; done) | (simp; omega))) | ((with_reducible refine below_setCell ?_ ?_ _); · (first | omega | (simp; done) | (simp; omega))) | (with_reducible refine Below.drew ?_) | ((with_reducible refine below_call (by assumption) ?_ ?_); · (first | omega | (simp; done) | (simp; omega)))))
  · have hc1 : (chk s a b != 0) = true := by simp [hc]
    have Y := Lib.hid (numV_bad (n := 1) hc)
    have Z := Lib.hid (textV_bad (m := m) hc)
    clear hc
    go_enter Try.func14, Try.ntmps14
    go_wp2_with (go_at_call 12; refine (rnum_any _ _ _ _ _ hm).mono ?_; rintro e w1 ⟨rfl, hb1⟩; rw [Y.out]; obtain ⟨hk1, hf1, hz1⟩ := bcellN (n := w.heap.size + 3) (by (try simp only [World.size_drew, World.size_alloc, World.size_setCell]); omega) hb1; have hz1_0 : w.heap.size < w1.heap.size := (by omega); have hz1_1 : w.heap.size + 1 < w1.heap.size := (by omega); have hz1_2 : w.heap.size + 2 < w1.heap.size := (by omega))
    refine bodyPost_ret (v := .tuple #[.agg #[.string s, .int .i64 a, .int .i64 (chk s a b)], .string ⟨#[]⟩]) (by simp [results, Try.results14, go_sem, hk1, hz1_0, hz1_1, hz1_2]) rfl ⟨by rw [Z.out], ?_⟩
    (repeat (first | (with_reducible exact Below.refl _ _) | ((with_reducible refine below_alloc ?_ ?_ _); · (first | omega | (simp; done) | (simp; omega))) | ((with_reducible refine below_setCell ?_ ?_ _); · (first | omega | (simp; done) | (simp; omega))) | (with_reducible refine Below.drew ?_) | ((with_reducible refine below_call (by assumption) ?_ ?_); · (first | omega | (simp; done) | (simp; omega)))))

set_option maxHeartbeats 1000000 in
theorem rrest_any (s : ByteArray) (a b : Int) (w : World) (hs : s.size ≤ 281474976710656) :
    Calls Try.prog 16 #[.agg #[.string s, .int .i64 a, .int .i64 b]] w fun e w' => e = .returned (restV s a b) ∧ Below w.heap.size w w' := by
  have hm : s.size ≤ maxLen := by unfold maxLen; omega
  by_cases hc : chk s a b = 0
  · obtain ⟨rfl, h0, h1⟩ : b = 0 ∧ 0 ≤ a ∧ a ≤ s.size := chk_zero hc
    obtain ⟨a, rfl⟩ : ∃ x : Nat, a = x := ⟨a.toNat, by omega⟩
    have Z := Lib.hid (restV_ok hc)
    have hc1 : (chk s a 0 != 0) = false := by simp [hc]
    have Hc := Lib.hid hc
    clear hc
    go_enter Try.func16, Try.ntmps16
    go_wp2_with (go_at_call 36; refine (rbad_any _ _ _ _ hm).mono ?_; rintro e w1 ⟨rfl, hb1⟩; obtain ⟨hk1, hf1, hz1⟩ := bcellN (n := w.heap.size + 2) (by (try simp only [World.size_drew, World.size_alloc, World.size_setCell]); omega) hb1; have hz1_0 : w.heap.size < w1.heap.size := (by omega); have hz1_1 : w.heap.size + 1 < w1.heap.size := (by omega))
    refine bodyPost_ret (v := .tuple #[.agg #[.string s, .int .i64 s.size, .int .i64 0], .string (s.extract a s.size)]) (by simp [results, Try.results16, go_sem, hk1, hz1_0, hz1_1]) rfl ⟨by rw [Z.out], ?_⟩
    (repeat (first | (with_reducible exact Below.refl _ _) | ((with_reducible refine below_alloc ?_ ?_ _); · (first | omega | (simp; done) | (simp; omega))) | ((with_reducible refine below_setCell ?_ ?_ _); · (first | omega | (simp; done) | (simp; omega))) | (with_reducible refine Below.drew ?_) | ((with_reducible refine below_call (by assumption) ?_ ?_); · (first | omega | (simp; done) | (simp; omega)))))
  · have hc1 : (chk s a b != 0) = true := by simp [hc]
    have Z := Lib.hid (restV_bad hc)
    clear hc
    go_enter Try.func16, Try.ntmps16
    go_wp2_with (go_at_call 36; refine (rbad_any _ _ _ _ hm).mono ?_; rintro e w1 ⟨rfl, hb1⟩; obtain ⟨hk1, hf1, hz1⟩ := bcellN (n := w.heap.size + 2) (by (try simp only [World.size_drew, World.size_alloc, World.size_setCell]); omega) hb1; have hz1_0 : w.heap.size < w1.heap.size := (by omega); have hz1_1 : w.heap.size + 1 < w1.heap.size := (by omega))
    go_region_with (first | (go_at_call 36; refine (rbad_any _ _ _ _ hm).mono ?_; rintro e w2 ⟨rfl, hb2⟩; obtain ⟨hk2, hf2, hz2⟩ := bcellN (n := w.heap.size + 2) (by (try simp only [World.size_drew, World.size_alloc, World.size_setCell]); omega) hb2; have hz2_0 : w.heap.size < w2.heap.size := (by omega); have hz2_1 : w.heap.size + 1 < w2.heap.size := (by omega)) | (go_at_call 37; refine (with_any _ _ _ _ _).mono ?_; rintro e w3 ⟨rfl, hb3⟩; obtain ⟨hk3, hf3, hz3⟩ := bcellN (n := w.heap.size + 2) (by (try simp only [World.size_drew, World.size_alloc, World.size_setCell]); omega) hb3; have hz3_0 : w.heap.size < w3.heap.size := (by omega); have hz3_1 : w.heap.size + 1 < w3.heap.size := (by omega)))
    all_goals
      go_wp2
      refine bodyPost_ret (v := .tuple #[.agg #[.string s, .int .i64 a, .int .i64 (chk s a b)], .string ⟨#[]⟩]) (by simp [results, Try.results16, go_sem, hk1, hk2, hk3]) rfl ⟨by rw [Z.out], ?_⟩
      (repeat (first | (with_reducible exact Below.refl _ _) | ((with_reducible refine below_alloc ?_ ?_ _); · (first | omega | (simp; done) | (simp; omega))) | ((with_reducible refine below_setCell ?_ ?_ _); · (first | omega | (simp; done) | (simp; omega))) | (with_reducible refine Below.drew ?_) | ((with_reducible refine below_call (by assumption) ?_ ?_); · (first | omega | (simp; done) | (simp; omega)))))

set_option maxHeartbeats 1000000 in
theorem rdone_any (s : ByteArray) (a b : Int) (w : World) (hm : s.size ≤ maxLen) :
    Calls Try.prog 21 #[.agg #[.string s, .int .i64 a, .int .i64 b]] w fun e w' => e = .returned (.int .i64 (doneN s a b)) ∧ Below w.heap.size w w' := by
  by_cases hc : chk s a b = 0
  · obtain ⟨rfl, h0, h1⟩ : b = 0 ∧ 0 ≤ a ∧ a ≤ s.size := chk_zero hc
    have hc1 : (chk s a 0 == 0) = true := by simp [hc]
    have Hl := leftN_ok hc
    have Hc := Lib.hid hc
    by_cases hl : a < s.size
    · have hl2 : 0 < leftN s a 0 := by omega
      have Z : Hid (doneN s a 0 = 4) := by simp [Hid, doneN, hc, hl]
      clear hc Hl
      go_enter Try.func21, Try.ntmps21
      go_wp2_with (first | (go_at_call 36; refine (rbad_any _ _ _ _ hm).mono ?_; rintro e w1 ⟨rfl, hb1⟩; obtain ⟨hk1, hf1, hz1⟩ := bcellN (n := w.heap.size + 1) (by (try simp only [World.size_drew, World.size_alloc, World.size_setCell]); omega) hb1; have hz1_0 : w.heap.size < w1.heap.size := (by omega)) | (go_at_call 19; refine (rleft_any _ _ _ _ hm).mono ?_; rintro e w2 ⟨rfl, hb2⟩; obtain ⟨hk2, hf2, hz2⟩ := bcellN (n := w.heap.size + 1) (by (try simp only [World.size_drew, World.size_alloc, World.size_setCell]); omega) hb2; have hz2_0 : w.heap.size < w2.heap.size := (by omega)))
      go_ret
      exact ⟨ret_int (by rw [Z.out]), by (repeat (first | (with_reducible exact Below.refl _ _) | ((with_reducible refine below_alloc ?_ ?_ _); · (first | omega | (simp; done) | (simp; omega))) | ((with_reducible refine below_setCell ?_ ?_ _); · (first | omega | (simp; done) | (simp; omega))) | (with_reducible refine Below.drew ?_) | ((with_reducible refine below_call (by assumption) ?_ ?_); · (first | omega | (simp; done) | (simp; omega)))))⟩
    · have hl2 : leftN s a 0 ≤ 0 := by omega
      have Z : Hid (doneN s a 0 = 0) := by simp [Hid, doneN, hc, hl]
      clear hc Hl
      go_enter Try.func21, Try.ntmps21
      go_wp2_with (first | (go_at_call 36; refine (rbad_any _ _ _ _ hm).mono ?_; rintro e w1 ⟨rfl, hb1⟩; obtain ⟨hk1, hf1, hz1⟩ := bcellN (n := w.heap.size + 1) (by (try simp only [World.size_drew, World.size_alloc, World.size_setCell]); omega) hb1; have hz1_0 : w.heap.size < w1.heap.size := (by omega)) | (go_at_call 19; refine (rleft_any _ _ _ _ hm).mono ?_; rintro e w2 ⟨rfl, hb2⟩; obtain ⟨hk2, hf2, hz2⟩ := bcellN (n := w.heap.size + 1) (by (try simp only [World.size_drew, World.size_alloc, World.size_setCell]); omega) hb2; have hz2_0 : w.heap.size < w2.heap.size := (by omega)))
      go_ret
      exact ⟨ret_int (by rw [Z.out]; exact Hc.out), by (repeat (first | (with_reducible exact Below.refl _ _) | ((with_reducible refine below_alloc ?_ ?_ _); · (first | omega | (simp; done) | (simp; omega))) | ((with_reducible refine below_setCell ?_ ?_ _); · (first | omega | (simp; done) | (simp; omega))) | (with_reducible refine Below.drew ?_) | ((with_reducible refine below_call (by assumption) ?_ ?_); · (first | omega | (simp; done) | (simp; omega)))))⟩
  · have hc1 : (chk s a b == 0) = false := by simp [hc]
    have Z : Hid (doneN s a b = chk s a b) := by simp [Hid, doneN, hc]
    clear hc
    go_enter Try.func21, Try.ntmps21
    go_wp2_with (go_at_call 36; refine (rbad_any _ _ _ _ hm).mono ?_; rintro e w1 ⟨rfl, hb1⟩; obtain ⟨hk1, hf1, hz1⟩ := bcellN (n := w.heap.size + 1) (by (try simp only [World.size_drew, World.size_alloc, World.size_setCell]); omega) hb1; have hz1_0 : w.heap.size < w1.heap.size := (by omega))
    go_ret
    exact ⟨ret_int (by rw [Z.out]), by (repeat (first | (with_reducible exact Below.refl _ _) | ((with_reducible refine below_alloc ?_ ?_ _); · (first | omega | (simp; done) | (simp; omega))) | ((with_reducible refine below_setCell ?_ ?_ _); · (first | omega | (simp; done) | (simp; omega))) | (with_reducible refine Below.drew ?_) | ((with_reducible refine below_call (by assumption) ?_ ?_); · (first | omega | (simp; done) | (simp; omega)))))⟩
end Go.Proofs.Ytodebflmojincaa
