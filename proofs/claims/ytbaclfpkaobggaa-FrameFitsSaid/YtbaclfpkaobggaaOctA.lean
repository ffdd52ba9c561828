/- Contracts of octet's and the document's small functions on a Read: each returns what a plain Lean function says, and leaves what was there. -/
import Derived.Test.YtbaclfpkaobggaaKit
namespace Go.Proofs.Ytbaclfpkaobggaa
open Go.RowKit
set_option linter.unusedVariables false

@[go_sem] theorem field_own2 (x y z : Value) (w : World) : (Instr.field 49 (.agg #[x, y, z]) 2).run Try.prog w = .ok z w := by kernel_rfl

/-- what is wrong with a Read -/
def chk (s : ByteArray) (a b : Int) : Int := if b = 0 ∧ (a < 0 ∨ (s.size : Int) < a) then 2 else b
theorem chk_bad {s : ByteArray} {a b : Int} (h : b ≠ 0) : chk s a b = b := by simp [chk, h]
theorem chk_low {s : ByteArray} {a : Int} (h : a < 0) : chk s a 0 = 2 := by simp [chk, h]
theorem chk_high {s : ByteArray} {a : Int} (h : (s.size : Int) < a) : chk s a 0 = 2 := by simp [chk, h]
theorem chk_ok {s : ByteArray} {a : Int} (h0 : 0 ≤ a) (h : a ≤ s.size) : chk s a 0 = 0 := by
  unfold chk; rw [if_neg]; omega
theorem chk_zero {s : ByteArray} {a b : Int} (h : chk s a b = 0) : b = 0 ∧ 0 ≤ a ∧ a ≤ s.size := by
  unfold chk at h
  split at h
  · cases h
  · subst h; omega
def leftN (s : ByteArray) (a b : Int) : Int := if chk s a b = 0 then (s.size : Int) - a else 0
theorem leftN_ok {s : ByteArray} {a b : Int} (h : chk s a b = 0) : leftN s a b = s.size - a := if_pos h
theorem leftN_bad {s : ByteArray} {a b : Int} (h : ¬ chk s a b = 0) : leftN s a b = 0 := if_neg h
def wide (n : Int) : Bool := n == 1 || n == 2 || n == 4 || n == 6

set_option maxHeartbeats 400000 in
theorem checked_any (s : ByteArray) (a b : Int) (w : World) (hs : s.size ≤ maxLen) :
    Calls Try.prog 32 #[.agg #[.string s, .int .i64 a, .int .i64 b]] w fun e w' => e = .returned (.agg #[.string s, .int .i64 a, .int .i64 (chk s a b)]) ∧ Below w.heap.size w w' := by
  unfold maxLen at hs
  by_cases hb : b = 0
  · subst hb
    by_cases ha : a < 0
    · go_enter Try.func32, Try.ntmps32
      go_wp2
      refine bodyPost_ret (v := .agg #[.string s, .int .i64 a, .int .i64 2]) (by simp [results, Try.results32, go_sem]) rfl ⟨by rw [chk_low ha], ?_⟩
      (repeat (first | (with_reducible exact Below.refl _ _) | ((with_reducible refine below_alloc ?_ ?_ _); · (first | omega | (simp; done) | (simp; omega))) | ((with_reducible refine below_setCell ?_ ?_ _); · (first | omega | (simp; done) | (simp; omega))) | (with_reducible refine Below.drew ?_) | (with_reducible refine below_drewN ?_ _) | ((with_reducible refine below_call (by assumption) ?_ ?_); · (first | omega | (simp; done) | (simp; omega)))))
    · by_cases ha2 : (s.size : Int) < a
      · go_enter Try.func32, Try.ntmps32
        go_wp2
        refine bodyPost_ret (v := .agg #[.string s, .int .i64 a, .int .i64 2]) (by simp [results, Try.results32, go_sem]) rfl ⟨by rw [chk_high ha2], ?_⟩
        (repeat (first | (with_reducible exact Below.refl _ _) | ((with_reducible refine below_alloc ?_ ?_ _); · (first | omega | (simp; done) | (simp; omega))) | ((with_reducible refine below_setCell ?_ ?_ _); · (first | omega | (simp; done) | (simp; omega))) | (with_reducible refine Below.drew ?_) | (with_reducible refine below_drewN ?_ _) | ((with_reducible refine below_call (by assumption) ?_ ?_); · (first | omega | (simp; done) | (simp; omega)))))
      · go_enter Try.func32, Try.ntmps32
        go_wp2
        refine bodyPost_ret (v := .agg #[.string s, .int .i64 a, .int .i64 0]) (by simp [results, Try.results32, go_sem]) rfl ⟨by rw [chk_ok (by omega) (by omega)], ?_⟩
        (repeat (first | (with_reducible exact Below.refl _ _) | ((with_reducible refine below_alloc ?_ ?_ _); · (first | omega | (simp; done) | (simp; omega))) | ((with_reducible refine below_setCell ?_ ?_ _); · (first | omega | (simp; done) | (simp; omega))) | (with_reducible refine Below.drew ?_) | (with_reducible refine below_drewN ?_ _) | ((with_reducible refine below_call (by assumption) ?_ ?_); · (first | omega | (simp; done) | (simp; omega)))))
  · have hb1 : (b == 0) = false := by simpa using hb
    go_enter Try.func32, Try.ntmps32
    go_wp2
    refine bodyPost_ret (v := .agg #[.string s, .int .i64 a, .int .i64 b]) (by simp [results, Try.results32, go_sem]) rfl ⟨by rw [chk_bad hb], ?_⟩
    (repeat (first | (with_reducible exact Below.refl _ _) | ((with_reducible refine below_alloc ?_ ?_ _); · (first | omega | (simp; done) | (simp; omega))) | ((with_reducible refine below_setCell ?_ ?_ _); · (first | omega | (simp; done) | (simp; omega))) | (with_reducible refine Below.drew ?_) | (with_reducible refine below_drewN ?_ _) | ((with_reducible refine below_call (by assumption) ?_ ?_); · (first | omega | (simp; done) | (simp; omega)))))

set_option maxHeartbeats 400000 in
theorem failed_any (s : ByteArray) (a b c : Int) (w : World) :
    Calls Try.prog 34 #[.agg #[.string s, .int .i64 a, .int .i64 b], .int .i64 c] w fun e w' => e = .returned (.agg #[.string s, .int .i64 a, .int .i64 c]) ∧ Below w.heap.size w w' := by
  go_enter Try.func34, Try.ntmps34
  go_wp2
  refine bodyPost_ret (v := .agg #[.string s, .int .i64 a, .int .i64 c]) (by simp [results, Try.results34, go_sem]) rfl ⟨rfl, ?_⟩
  (repeat (first | (with_reducible exact Below.refl _ _) | ((with_reducible refine below_alloc ?_ ?_ _); · (first | omega | (simp; done) | (simp; omega))) | ((with_reducible refine below_setCell ?_ ?_ _); · (first | omega | (simp; done) | (simp; omega))) | (with_reducible refine Below.drew ?_) | (with_reducible refine below_drewN ?_ _) | ((with_reducible refine below_call (by assumption) ?_ ?_); · (first | omega | (simp; done) | (simp; omega)))))

set_option maxHeartbeats 400000 in
theorem isWidth_any (n : Int) (w : World) :
    Calls Try.prog 33 #[.int .i64 n] w fun e w' => e = .returned (.bool (wide n)) ∧ w = w' := by
  go_enter Try.func33, Try.ntmps33
  go_wp2
  all_goals (go_ret; refine ⟨?_, rfl⟩)
  all_goals exact ret_bool (by simp [wide, *])

set_option maxHeartbeats 400000 in
theorem open_any (s : ByteArray) (w : World) :
    Calls Try.prog 24 #[.string s] w fun e w' => e = .returned (.agg #[.string s, .int .i64 0, .int .i64 0]) ∧ Below w.heap.size w w' := by
  go_enter Try.func24, Try.ntmps24
  go_wp2
  refine bodyPost_ret (v := .agg #[.string s, .int .i64 0, .int .i64 0]) (by simp [results, Try.results24, go_sem]) rfl ⟨rfl, ?_⟩
  (repeat (first | (with_reducible exact Below.refl _ _) | ((with_reducible refine below_alloc ?_ ?_ _); · (first | omega | (simp; done) | (simp; omega))) | ((with_reducible refine below_setCell ?_ ?_ _); · (first | omega | (simp; done) | (simp; omega))) | (with_reducible refine Below.drew ?_) | (with_reducible refine below_drewN ?_ _) | ((with_reducible refine below_call (by assumption) ?_ ?_); · (first | omega | (simp; done) | (simp; omega)))))

set_option maxHeartbeats 400000 in
theorem left_any (s : ByteArray) (a b : Int) (w : World) (hs : s.size ≤ maxLen) :
    Calls Try.prog 26 #[.agg #[.string s, .int .i64 a, .int .i64 b]] w fun e w' => e = .returned (.int .i64 (leftN s a b)) ∧ Below w.heap.size w w' := by
  have hs' := hs
  unfold maxLen at hs'
  by_cases hc : chk s a b = 0
  · obtain ⟨rfl, h0, h1⟩ : b = 0 ∧ 0 ≤ a ∧ a ≤ s.size := chk_zero hc
    have hc1 : (chk s a 0 != 0) = false := by simp [hc]
    have Hc := Lib.hid hc
    clear hc
    go_enter Try.func26, Try.ntmps26
    go_wp2_with (go_at_call 32; refine (checked_any _ _ _ _ hs).mono ?_; rintro e w1 ⟨rfl, hb1⟩; obtain ⟨hk, hf⟩ := bcell hb1)
    go_ret
    exact ⟨ret_int (by rw [leftN_ok Hc.out]), by (repeat (first | (with_reducible exact Below.refl _ _) | ((with_reducible refine below_alloc ?_ ?_ _); · (first | omega | (simp; done) | (simp; omega))) | ((with_reducible refine below_setCell ?_ ?_ _); · (first | omega | (simp; done) | (simp; omega))) | (with_reducible refine Below.drew ?_) | (with_reducible refine below_drewN ?_ _) | ((with_reducible refine below_call (by assumption) ?_ ?_); · (first | omega | (simp; done) | (simp; omega)))))⟩
  · have hc1 : (chk s a b != 0) = true := by simp [hc]
    go_enter Try.func26, Try.ntmps26
    go_wp2_with (go_at_call 32; refine (checked_any _ _ _ _ hs).mono ?_; rintro e w1 ⟨rfl, hb1⟩; obtain ⟨hk, hf⟩ := bcell hb1)
    go_ret
    exact ⟨ret_int (by rw [leftN_bad hc]), by (repeat (first | (with_reducible exact Below.refl _ _) | ((with_reducible refine below_alloc ?_ ?_ _); · (first | omega | (simp; done) | (simp; omega))) | ((with_reducible refine below_setCell ?_ ?_ _); · (first | omega | (simp; done) | (simp; omega))) | (with_reducible refine Below.drew ?_) | (with_reducible refine below_drewN ?_ _) | ((with_reducible refine below_call (by assumption) ?_ ?_); · (first | omega | (simp; done) | (simp; omega)))))⟩

def doneN (s : ByteArray) (a b : Int) : Int := if chk s a b ≠ 0 then chk s a b else if a < s.size then 4 else 0
end Go.Proofs.Ytbaclfpkaobggaa
