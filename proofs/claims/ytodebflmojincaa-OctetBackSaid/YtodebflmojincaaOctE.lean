/- The contracts of octet's Text and Rest. -/
import Derived.Test.YtodebflmojincaaOctD
import Derived.Test.YtodebflmojincaaClone
import Derived.Deep.DeepCutAuto
namespace Go.Proofs.Ytodebflmojincaa
open Go.RowKit
set_option linter.unusedVariables false
set_option linter.unusedSimpArgs false

set_option maxHeartbeats 400000 in
theorem part_any (s : ByteArray) (a b : Nat) (w : World) (hs : s.size ≤ 281474976710656) (hab : a ≤ b) (hb : b ≤ s.size) :
    Calls Try.prog 39 #[.string s, .int .i64 a, .int .i64 b] w fun e w' => e = .returned (.string (s.extract a b)) ∧ Below w.heap.size w w' := by
  have hx : (s.extract a b).size ≤ 281474976710656 := by simp; omega
  go_enter Try.func39, Try.ntmps39
  go_wp2_with (go_at_call 40; refine (clone_any _ _ hx).mono ?_; rintro e w1 ⟨rfl, hb1⟩)
  go_ret
  exact ⟨rfl, hb1⟩

/-- the length that stands at a -/
def tlen (s : ByteArray) (a : Nat) : Nat := (be (cut s a 1)).toNat
theorem tlen_lt {s : ByteArray} {a : Nat} (h : a + 1 ≤ s.size) : tlen s a < 256 := by
  have h1 := be_lt (cut s a 1)
  rw [cut_len h] at h1
  have h2 := be_nonneg (cut s a 1)
  unfold tlen; omega
theorem be_tlen (s : ByteArray) (a : Nat) : be (cut s a 1) = (tlen s a : Int) := by
  have h2 := be_nonneg (cut s a 1)
  unfold tlen; omega
def textOk (s : ByteArray) (a b m : Int) : Bool := decide (chk s a b = 0 ∧ 1 ≤ (s.size : Int) - a ∧ (tlen s a.toNat : Int) ≤ m ∧ (tlen s a.toNat : Int) ≤ s.size - (a + 1))
def textA (s : ByteArray) (a b m : Int) : Int := if textOk s a b m = true then a + 1 + tlen s a.toNat else a
def textB (s : ByteArray) (a b m : Int) : Int := if chk s a b ≠ 0 then chk s a b else if (s.size : Int) - a < 1 then 3 else if m < tlen s a.toNat then 5 else if (s.size : Int) - (a + 1) < tlen s a.toNat then 3 else 0
def textS (s : ByteArray) (a b m : Int) : ByteArray := if textOk s a b m = true then s.extract (a.toNat + 1) (a.toNat + 1 + tlen s a.toNat) else ⟨#[]⟩
def textV (s : ByteArray) (a b m : Int) : Value := .tuple #[.agg #[.string s, .int .i64 (textA s a b m), .int .i64 (textB s a b m)], .string (textS s a b m)]
theorem textV_bad {s : ByteArray} {a b m : Int} (h : ¬ chk s a b = 0) : textV s a b m = .tuple #[.agg #[.string s, .int .i64 a, .int .i64 (chk s a b)], .string ⟨#[]⟩] := by simp [textV, textA, textB, textS, textOk, h]
theorem textV_cut {s : ByteArray} {a b m : Int} (h : chk s a b = 0) (h1 : (s.size : Int) - a < 1) : textV s a b m = .tuple #[.agg #[.string s, .int .i64 a, .int .i64 3], .string ⟨#[]⟩] := by
  have : ¬ 1 ≤ (s.size : Int) - a := by omega
  simp [textV, textA, textB, textS, textOk, h, h1, this]
theorem textV_long {s : ByteArray} {a b m : Int} (h : chk s a b = 0) (h1 : 1 ≤ (s.size : Int) - a) (h2 : m < tlen s a.toNat) : textV s a b m = .tuple #[.agg #[.string s, .int .i64 a, .int .i64 5], .string ⟨#[]⟩] := by
  have e1 : ¬ (s.size : Int) - a < 1 := by omega
  have e2 : ¬ (tlen s a.toNat : Int) ≤ m := by omega
  simp [textV, textA, textB, textS, textOk, h, h2, e1, e2]
theorem textV_short {s : ByteArray} {a b m : Int} (h : chk s a b = 0) (h1 : 1 ≤ (s.size : Int) - a) (h2 : (tlen s a.toNat : Int) ≤ m) (h3 : (s.size : Int) - (a + 1) < tlen s a.toNat) : textV s a b m = .tuple #[.agg #[.string s, .int .i64 a, .int .i64 3], .string ⟨#[]⟩] := by
  have e1 : ¬ (s.size : Int) - a < 1 := by omega
  have e2 : ¬ m < (tlen s a.toNat : Int) := by omega
  have e3 : ¬ (tlen s a.toNat : Int) ≤ s.size - (a + 1) := by omega
  simp [textV, textA, textB, textS, textOk, h, h3, e1, e2, e3]
theorem textV_ok {s : ByteArray} {a : Nat} {b m : Int} (h : chk s a b = 0) (h1 : 1 ≤ (s.size : Int) - a) (h2 : (tlen s a : Int) ≤ m) (h3 : (tlen s a : Int) ≤ s.size - (a + 1)) : textV s a b m = .tuple #[.agg #[.string s, .int .i64 (a + 1 + tlen s a), .int .i64 0], .string (s.extract (a + 1) (a + 1 + tlen s a))] := by
  have e1 : ¬ (s.size : Int) - a < 1 := by omega
  have e2 : ¬ m < (tlen s a : Int) := by omega
  have e3 : ¬ (s.size : Int) - (a + 1) < tlen s a := by omega
  have e0 : textOk s a b m = true := by simp [textOk, h, h2, h3, h1]
  simp [textV, textA, textB, textS, e0, h, e1, e2, e3]

set_option maxHeartbeats 1000000 in
theorem text_any (s : ByteArray) (a b m : Int) (w : World) (hs : s.size ≤ 281474976710656) :
    Calls Try.prog 13 #[.agg #[.string s, .int .i64 a, .int .i64 b], .int .i64 m] w fun e w' => e = .returned (textV s a b m) ∧ Below w.heap.size w w' := by
  have hm : s.size ≤ maxLen := by unfold maxLen; omega
  by_cases hc : chk s a b = 0
  · obtain ⟨rfl, h0, h1⟩ : b = 0 ∧ 0 ≤ a ∧ a ≤ s.size := chk_zero hc
    obtain ⟨a, rfl⟩ : ∃ x : Nat, a = x := ⟨a.toNat, by omega⟩
    by_cases hl : (1 : Int) ≤ (s.size : Int) - a
    · have Y : Hid (numV s a 0 1 = .tuple #[.agg #[.string s, .int .i64 (a + 1), .int .i64 0], .int .i64 (tlen s a)]) := by
        have := numV_ok hc (by decide) hl
        simp only [Int.toNat_natCast, show (1 : Int).toNat = 1 from rfl, be_tlen] at this
        exact this
      have hL : Hid (leftN s (a + 1) 0 = s.size - (a + 1)) := leftN_ok (chk_ok (by omega) (by omega))
      have Hc := Lib.hid hc
      have ht := tlen_lt (s := s) (a := a) (by omega)
      clear hc
      by_cases h2 : m < tlen s a
      · have Z := Lib.hid (textV_long Hc.out hl (by simpa using h2))
        go_enter Try.func13, Try.ntmps13
        go_wp2_with (first | (go_at_call 11; refine (num_any _ _ _ _ _ hm).mono ?_; rintro e w1 ⟨rfl, hb1⟩; rw [Y.out]; obtain ⟨hk1, hf1, hz1⟩ := bcellN (n := w.heap.size + 2) (by (try simp only [World.size_drew, World.size_alloc, World.size_setCell]); omega) hb1; have hz1_0 : w.heap.size < w1.heap.size := (by omega); have hz1_1 : w.heap.size + 1 < w1.heap.size := (by omega)) | (go_at_call 35; refine (failed_any _ _ _ _ _).mono ?_; rintro e w3 ⟨rfl, hb3⟩; obtain ⟨hk3, hf3, hz3⟩ := bcellN (n := w.heap.size + 3) (by (try simp only [World.size_drew, World.size_alloc, World.size_setCell]); omega) hb3; have hz3_0 : w.heap.size < w3.heap.size := (by omega); have hz3_1 : w.heap.size + 1 < w3.heap.size := (by omega); have hz3_2 : w.heap.size + 2 < w3.heap.size := (by omega)))
        refine bodyPost_ret (v := .tuple #[.agg #[.string s, .int .i64 a, .int .i64 5], .string ⟨#[]⟩]) (by simp [results, Try.results13, go_sem, hk1, hz1_0, hz1_1, hk3, hz3_0, hz3_1, hz3_2]) rfl ⟨by rw [Z.out], ?_⟩
        (repeat (first | (with_reducible exact Below.refl _ _) | ((with_reducible refine below_alloc ?_ ?_ _); · (first | omega | (simp; done) | (simp; omega))) | ((with_reducible refine below_setCell ?_ ?_ _); · (first | omega | (simp; done) | (simp; omega))) | (with_reducible refine Below.drew ?_) | ((with_reducible refine below_call (by assumption) ?_ ?_); · (first | omega | (simp; done) | (simp; omega)))))
      · by_cases h3 : (s.size : Int) - (a + 1) < tlen s a
        · have Z := Lib.hid (textV_short Hc.out hl (by simpa using h2) (by simpa using h3))
          have h3' : leftN s (a + 1) 0 < tlen s a := by rw [hL.out]; exact h3
          go_enter Try.func13, Try.ntmps13
          go_wp2_with (first | (go_at_call 11; refine (num_any _ _ _ _ _ hm).mono ?_; rintro e w1 ⟨rfl, hb1⟩; rw [Y.out]; obtain ⟨hk1, hf1, hz1⟩ := bcellN (n := w.heap.size + 2) (by (try simp only [World.size_drew, World.size_alloc, World.size_setCell]); omega) hb1; have hz1_0 : w.heap.size < w1.heap.size := (by omega); have hz1_1 : w.heap.size + 1 < w1.heap.size := (by omega)) | (go_at_call 18; refine (left_any _ _ _ _ hm).mono ?_; rintro e w2 ⟨rfl, hb2⟩; obtain ⟨hk2, hf2, hz2⟩ := bcellN (n := w.heap.size + 3) (by (try simp only [World.size_drew, World.size_alloc, World.size_setCell]); omega) hb2; have hz2_0 : w.heap.size < w2.heap.size := (by omega); have hz2_1 : w.heap.size + 1 < w2.heap.size := (by omega); have hz2_2 : w.heap.size + 2 < w2.heap.size := (by omega); obtain ⟨hk2w1, hf2w1, hz2w1⟩ := bcellAt (b := w1.heap.size) (by (try simp only [World.size_drew, World.size_alloc, World.size_setCell]); omega) hb2) | (go_at_call 35; refine (failed_any _ _ _ _ _).mono ?_; rintro e w3 ⟨rfl, hb3⟩; obtain ⟨hk3, hf3, hz3⟩ := bcellN (n := w.heap.size + 3) (by (try simp only [World.size_drew, World.size_alloc, World.size_setCell]); omega) hb3; have hz3_0 : w.heap.size < w3.heap.size := (by omega); have hz3_1 : w.heap.size + 1 < w3.heap.size := (by omega); have hz3_2 : w.heap.size + 2 < w3.heap.size := (by omega)))
          refine bodyPost_ret (v := .tuple #[.agg #[.string s, .int .i64 a, .int .i64 3], .string ⟨#[]⟩]) (by simp [results, Try.results13, go_sem, hk1, hz1_0, hz1_1, hk2, hz2_0, hz2_1, hz2_2, hk3, hz3_0, hz3_1, hz3_2]) rfl ⟨by rw [Z.out], ?_⟩
          (repeat (first | (with_reducible exact Below.refl _ _) | ((with_reducible refine below_alloc ?_ ?_ _); · (first | omega | (simp; done) | (simp; omega))) | ((with_reducible refine below_setCell ?_ ?_ _); · (first | omega | (simp; done) | (simp; omega))) | (with_reducible refine Below.drew ?_) | ((with_reducible refine below_call (by assumption) ?_ ?_); · (first | omega | (simp; done) | (simp; omega)))))
        · have Z := Lib.hid (textV_ok (m := m) Hc.out hl (by omega) (by omega))
          have h3' : (tlen s a : Int) ≤ leftN s (a + 1) 0 := by rw [hL.out]; omega
          have hp : ((a : Int) + 1 + tlen s a) ≤ s.size := by omega
          go_enter Try.func13, Try.ntmps13
          go_wp2_with (first | (go_at_call 11; refine (num_any _ _ _ _ _ hm).mono ?_; rintro e w1 ⟨rfl, hb1⟩; rw [Y.out]; obtain ⟨hk1, hf1, hz1⟩ := bcellN (n := w.heap.size + 2) (by (try simp only [World.size_drew, World.size_alloc, World.size_setCell]); omega) hb1; have hz1_0 : w.heap.size < w1.heap.size := (by omega); have hz1_1 : w.heap.size + 1 < w1.heap.size := (by omega)) | (go_at_call 18; refine (left_any _ _ _ _ hm).mono ?_; rintro e w2 ⟨rfl, hb2⟩; obtain ⟨hk2, hf2, hz2⟩ := bcellN (n := w.heap.size + 3) (by (try simp only [World.size_drew, World.size_alloc, World.size_setCell]); omega) hb2; have hz2_0 : w.heap.size < w2.heap.size := (by omega); have hz2_1 : w.heap.size + 1 < w2.heap.size := (by omega); have hz2_2 : w.heap.size + 2 < w2.heap.size := (by omega); obtain ⟨hk2w1, hf2w1, hz2w1⟩ := bcellAt (b := w1.heap.size) (by (try simp only [World.size_drew, World.size_alloc, World.size_setCell]); omega) hb2) | (go_at_call 35; refine (failed_any _ _ _ _ _).mono ?_; rintro e w3 ⟨rfl, hb3⟩; obtain ⟨hk3, hf3, hz3⟩ := bcellN (n := w.heap.size + 3) (by (try simp only [World.size_drew, World.size_alloc, World.size_setCell]); omega) hb3; have hz3_0 : w.heap.size < w3.heap.size := (by omega); have hz3_1 : w.heap.size + 1 < w3.heap.size := (by omega); have hz3_2 : w.heap.size + 2 < w3.heap.size := (by omega); obtain ⟨hk3w1, hf3w1, hz3w1⟩ := bcellAt (b := w1.heap.size) (by (try simp only [World.size_drew, World.size_alloc, World.size_setCell]); omega) hb3) | (go_at_call 39; refine (part_any s (a + 1) (a + 1 + tlen s a) _ hs (by omega) (by omega)).mono ?_; rintro e w3 ⟨rfl, hb3⟩; obtain ⟨hk3, hf3, hz3⟩ := bcellN (n := w.heap.size + 3) (by (try simp only [World.size_drew, World.size_alloc, World.size_setCell]); omega) hb3; have hz3_0 : w.heap.size < w3.heap.size := (by omega); have hz3_1 : w.heap.size + 1 < w3.heap.size := (by omega); have hz3_2 : w.heap.size + 2 < w3.heap.size := (by omega); obtain ⟨hk3w1, hf3w1, hz3w1⟩ := bcellAt (b := w1.heap.size) (by (try simp only [World.size_drew, World.size_alloc, World.size_setCell]); omega) hb3))
          refine bodyPost_ret (v := .tuple #[.agg #[.string s, .int .i64 (a + 1 + tlen s a), .int .i64 0], .string (s.extract (a + 1) (a + 1 + tlen s a))]) (by simp [results, Try.results13, go_sem, hk1, hz1_0, hz1_1, hk2, hz2_0, hz2_1, hz2_2, hk3, hz3_0, hz3_1, hz3_2, hk2w1, hz2w1, hk3w1, hz3w1]) rfl ⟨by rw [Z.out], ?_⟩
          (repeat (first | (with_reducible exact Below.refl _ _) | ((with_reducible refine below_alloc ?_ ?_ _); · (first | omega | (simp; done) | (simp; omega))) | ((with_reducible refine below_setCell ?_ ?_ _); · (first | omega | (simp; done) | (simp; omega))) | (with_reducible refine Below.drew ?_) | ((with_reducible refine below_call (by assumption) ?_ ?_); · (first | omega | (simp; done) | (simp; omega)))))
    · have Y := Lib.hid (numV_cut hc (by decide) (show (s.size : Int) - a < 1 by omega))
      have Z := Lib.hid (textV_cut (m := m) hc (show (s.size : Int) - a < 1 by omega))
      clear hc
      go_enter Try.func13, Try.ntmps13
      go_wp2_with (go_at_call 11; refine (num_any _ _ _ _ _ hm).mono ?_; rintro e w1 ⟨rfl, hb1⟩; rw [Y.out]; obtain ⟨hk1, hf1, hz1⟩ := bcellN (n := w.heap.size + 2) (by (try simp only [World.size_drew, World.size_alloc, World.size_setCell]); omega) hb1; have hz1_0 : w.heap.size < w1.heap.size := (by omega); have hz1_1 : w.heap.size + 1 < w1.heap.size := (by omega))
      refine bodyPost_ret (v := .tuple #[.agg #[.string s, .int .i64 a, .int .i64 3], .string ⟨#[]⟩]) (by simp [results, Try.results13, go_sem, hk1, hz1_0, hz1_1]) rfl ⟨by rw [Z.out], ?_⟩
      (repeat (first | (with_reducible exact Below.refl _ _) | ((with_reducible refine below_alloc ?_ ?_ _); · (first | omega | (simp; done) | (simp; omega))) | ((with_reducible refine below_setCell ?_ ?_ _); · (first | omega | (simp; done) | (simp; omega))) | (with_reducible refine Below.drew ?_) | ((with_reducible refine below_call (by assumption) ?_ ?_); · (first | omega | (simp; done) | (simp; omega)))))
  · have hc1 : (chk s a b != 0) = true := by simp [hc]
    have Y := Lib.hid (numV_bad (n := 1) hc)
    have Z := Lib.hid (textV_bad (m := m) hc)
    clear hc
    go_enter Try.func13, Try.ntmps13
    go_wp2_with (go_at_call 11; refine (num_any _ _ _ _ _ hm).mono ?_; rintro e w1 ⟨rfl, hb1⟩; rw [Y.out]; obtain ⟨hk1, hf1, hz1⟩ := bcellN (n := w.heap.size + 2) (by (try simp only [World.size_drew, World.size_alloc, World.size_setCell]); omega) hb1; have hz1_0 : w.heap.size < w1.heap.size := (by omega); have hz1_1 : w.heap.size + 1 < w1.heap.size := (by omega))
    refine bodyPost_ret (v := .tuple #[.agg #[.string s, .int .i64 a, .int .i64 (chk s a b)], .string ⟨#[]⟩]) (by simp [results, Try.results13, go_sem, hk1, hz1_0, hz1_1]) rfl ⟨by rw [Z.out], ?_⟩
    (repeat (first | (with_reducible exact Below.refl _ _) | ((with_reducible refine below_alloc ?_ ?_ _); · (first | omega | (simp; done) | (simp; omega))) | ((with_reducible refine below_setCell ?_ ?_ _); · (first | omega | (simp; done) | (simp; omega))) | (with_reducible refine Below.drew ?_) | ((with_reducible refine below_call (by assumption) ?_ ?_); · (first | omega | (simp; done) | (simp; omega)))))
def restA (s : ByteArray) (a b : Int) : Int := if chk s a b = 0 then s.size else a
def restS (s : ByteArray) (a b : Int) : ByteArray := if chk s a b = 0 then s.extract a.toNat s.size else ⟨#[]⟩
def restV (s : ByteArray) (a b : Int) : Value := .tuple #[.agg #[.string s, .int .i64 (restA s a b), .int .i64 (chk s a b)], .string (restS s a b)]
theorem restV_bad {s : ByteArray} {a b : Int} (h : ¬ chk s a b = 0) : restV s a b = .tuple #[.agg #[.string s, .int .i64 a, .int .i64 (chk s a b)], .string ⟨#[]⟩] := by simp [restV, restA, restS, h]
theorem restV_ok {s : ByteArray} {a : Nat} {b : Int} (h : chk s a b = 0) : restV s a b = .tuple #[.agg #[.string s, .int .i64 s.size, .int .i64 0], .string (s.extract a s.size)] := by simp [restV, restA, restS, h]

set_option maxHeartbeats 1000000 in
theorem rest_any (s : ByteArray) (a b : Int) (w : World) (hs : s.size ≤ 281474976710656) :
    Calls Try.prog 15 #[.agg #[.string s, .int .i64 a, .int .i64 b]] w fun e w' => e = .returned (restV s a b) ∧ Below w.heap.size w w' := by
  have hm : s.size ≤ maxLen := by unfold maxLen; omega
  by_cases hc : chk s a b = 0
  · obtain ⟨rfl, h0, h1⟩ : b = 0 ∧ 0 ≤ a ∧ a ≤ s.size := chk_zero hc
    obtain ⟨a, rfl⟩ : ∃ x : Nat, a = x := ⟨a.toNat, by omega⟩
    have Z := Lib.hid (restV_ok hc)
    have hc1 : (chk s a 0 != 0) = false := by simp [hc]
    have Hc := Lib.hid hc
    clear hc
    go_enter Try.func15, Try.ntmps15
    go_wp2_with (first | (go_at_call 33; refine (checked_any _ _ _ _ hm).mono ?_; rintro e w1 ⟨rfl, hb1⟩; obtain ⟨hk1, hf1, hz1⟩ := bcellN (n := w.heap.size + 2) (by (try simp only [World.size_drew, World.size_alloc, World.size_setCell]); omega) hb1; have hz1_0 : w.heap.size < w1.heap.size := (by omega); have hz1_1 : w.heap.size + 1 < w1.heap.size := (by omega)) | (go_at_call 39; refine (part_any s a s.size _ hs (by omega) (by omega)).mono ?_; rintro e w3 ⟨rfl, hb3⟩; obtain ⟨hk3, hf3, hz3⟩ := bcellN (n := w.heap.size + 2) (by (try simp only [World.size_drew, World.size_alloc, World.size_setCell]); omega) hb3; have hz3_0 : w.heap.size < w3.heap.size := (by omega); have hz3_1 : w.heap.size + 1 < w3.heap.size := (by omega)))
    refine bodyPost_ret (v := .tuple #[.agg #[.string s, .int .i64 s.size, .int .i64 0], .string (s.extract a s.size)]) (by simp [results, Try.results15, go_sem, hk3, hk1]; exact Hc.out) rfl ⟨by rw [Z.out], ?_⟩
    (repeat (first | (with_reducible exact Below.refl _ _) | ((with_reducible refine below_alloc ?_ ?_ _); · (first | omega | (simp; done) | (simp; omega))) | ((with_reducible refine below_setCell ?_ ?_ _); · (first | omega | (simp; done) | (simp; omega))) | (with_reducible refine Below.drew ?_) | ((with_reducible refine below_call (by assumption) ?_ ?_); · (first | omega | (simp; done) | (simp; omega)))))
  · have hc1 : (chk s a b != 0) = true := by simp [hc]
    have Z := Lib.hid (restV_bad hc)
    clear hc
    go_enter Try.func15, Try.ntmps15
    go_wp2_with (go_at_call 33; refine (checked_any _ _ _ _ hm).mono ?_; rintro e w1 ⟨rfl, hb1⟩; obtain ⟨hk1, hf1, hz1⟩ := bcellN (n := w.heap.size + 2) (by (try simp only [World.size_drew, World.size_alloc, World.size_setCell]); omega) hb1; have hz1_0 : w.heap.size < w1.heap.size := (by omega); have hz1_1 : w.heap.size + 1 < w1.heap.size := (by omega))
    refine bodyPost_ret (v := .tuple #[.agg #[.string s, .int .i64 a, .int .i64 (chk s a b)], .string ⟨#[]⟩]) (by simp [results, Try.results15, go_sem, hk1, hz1_0, hz1_1]) rfl ⟨by rw [Z.out], ?_⟩
    (repeat (first | (with_reducible exact Below.refl _ _) | ((with_reducible refine below_alloc ?_ ?_ _); · (first | omega | (simp; done) | (simp; omega))) | ((with_reducible refine below_setCell ?_ ?_ _); · (first | omega | (simp; done) | (simp; omega))) | (with_reducible refine Below.drew ?_) | ((with_reducible refine below_call (by assumption) ?_ ?_); · (first | omega | (simp; done) | (simp; omega)))))
end Go.Proofs.Ytodebflmojincaa
