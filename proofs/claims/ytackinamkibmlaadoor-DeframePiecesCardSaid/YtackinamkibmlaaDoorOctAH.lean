/- Contracts of octet's and the document's small functions on a Read: each returns what a plain Lean function says, and leaves what was there. -/
import Derived.Test.YtackinamkibmlaaDoorKit
import Derived.Test.YtackinamkibmlaaDoorClone
import Derived.Deep.DeepCutAuto
import Derived.Test.YtackinamkibmlaaDoorKitB
namespace Go.Proofs.YtackinamkibmlaaDoor
open Go.RowKit
set_option linter.unusedVariables false

@[go_sem] theorem field_own2 (x y z : Value) (w : World) : (Instr.field 76 (.agg #[x, y, z]) 2).run Tryd.prog w = .ok z w := by kernel_rfl

/-- what is wrong with a Read -/
def chk (s : ByteArray) (a b : Int) : Int := if b = 0 ∧ (a < 0 ∨ (s.size : Int) < a) then 2 else b
theorem chk_bad {s : ByteArray} {a b : Int} (h : b ≠ 0) : chk s a b = b := by simp [chk, h]
theorem chk_low {s : ByteArray} {a : Int} (h : a < 0) : chk s a 0 = 2 := by simp [chk, h]
theorem chk_high {s : ByteArray} {a : Int} (h : (s.size : Int) < a) : chk s a 0 = 2 := by simp [chk, h]
theorem chk_ok {s : ByteArray} {a : Int} (h0 : 0 ≤ a) (h : a ≤ s.size) : chk s a 0 = 0 := by
  unfold chk; rw [if_neg]; omega
theorem chk_zero {s : ByteArray} {a b : Int} (h : chk s a b = 0) : b = 0 ∧ 0 ≤ a ∧ a ≤ s.size := by
  unfold chk at h
  split at h
  · cases h
  · subst h; omega
def leftN (s : ByteArray) (a b : Int) : Int := if chk s a b = 0 then (s.size : Int) - a else 0
theorem leftN_ok {s : ByteArray} {a b : Int} (h : chk s a b = 0) : leftN s a b = s.size - a := if_pos h
theorem leftN_bad {s : ByteArray} {a b : Int} (h : ¬ chk s a b = 0) : leftN s a b = 0 := if_neg h
def wide (n : Int) : Bool := n == 1 || n == 2 || n == 4 || n == 6

set_option maxHeartbeats 400000 in
theorem checked_any (s : ByteArray) (a b : Int) (w : World) (hs : s.size ≤ maxLen) :
    Calls Tryd.prog 49 #[.agg #[.string s, .int .i64 a, .int .i64 b]] w fun e w' => e = .returned (.agg #[.string s, .int .i64 a, .int .i64 (chk s a b)]) ∧ Below w.heap.size w w' := by
  unfold maxLen at hs
  by_cases hb : b = 0
  · subst hb
    by_cases ha : a < 0
    · go_enter Tryd.func49, Tryd.ntmps49
      go_wp2
      refine bodyPost_ret (v := .agg #[.string s, .int .i64 a, .int .i64 2]) (by simp [results, Tryd.results49, go_sem]) rfl ⟨by rw [chk_low ha], ?_⟩
      (repeat (first | (with_reducible exact Below.refl _ _) | ((with_reducible refine below_alloc ?_ ?_ _); · (first | omega | (simp; done) | (simp; omega))) | ((with_reducible refine below_setCell ?_ ?_ _); · (first | omega | (simp; done) | (simp; omega))) | (with_reducible refine Below.drew ?_) | (with_reducible refine below_drewN ?_ _) | ((with_reducible refine below_call (by assumption) ?_ ?_); · (first | omega | (simp; done) | (simp; omega)))))
    · by_cases ha2 : (s.size : Int) < a
      · go_enter Tryd.func49, Tryd.ntmps49
        go_wp2
        refine bodyPost_ret (v := .agg #[.string s, .int .i64 a, .int .i64 2]) (by simp [results, Tryd.results49, go_sem]) rfl ⟨by rw [chk_high ha2], ?_⟩
        (repeat (first | (with_reducible exact Below.refl _ _) | ((with_reducible refine below_alloc ?_ ?_ _); · (first | omega | (simp; done) | (simp; omega))) | ((with_reducible refine below_setCell ?_ ?_ _); · (first | omega | (simp; done) | (simp; omega))) | (with_reducible refine Below.drew ?_) | (with_reducible refine below_drewN ?_ _) | ((with_reducible refine below_call (by assumption) ?_ ?_); · (first | omega | (simp; done) | (simp; omega)))))
      · go_enter Tryd.func49, Tryd.ntmps49
        go_wp2
        refine bodyPost_ret (v := .agg #[.string s, .int .i64 a, .int .i64 0]) (by simp [results, Tryd.results49, go_sem]) rfl ⟨by rw [chk_ok (by omega) (by omega)], ?_⟩
        (repeat (first | (with_reducible exact Below.refl _ _) | ((with_reducible refine below_alloc ?_ ?_ _); · (first | omega | (simp; done) | (simp; omega))) | ((with_reducible refine below_setCell ?_ ?_ _); · (first | omega | (simp; done) | (simp; omega))) | (with_reducible refine Below.drew ?_) | (with_reducible refine below_drewN ?_ _) | ((with_reducible refine below_call (by assumption) ?_ ?_); · (first | omega | (simp; done) | (simp; omega)))))
  · have hb1 : (b == 0) = false := by simpa using hb
    go_enter Tryd.func49, Tryd.ntmps49
    go_wp2
    refine bodyPost_ret (v := .agg #[.string s, .int .i64 a, .int .i64 b]) (by simp [results, Tryd.results49, go_sem]) rfl ⟨by rw [chk_bad hb], ?_⟩
    (repeat (first | (with_reducible exact Below.refl _ _) | ((with_reducible refine below_alloc ?_ ?_ _); · (first | omega | (simp; done) | (simp; omega))) | ((with_reducible refine below_setCell ?_ ?_ _); · (first | omega | (simp; done) | (simp; omega))) | (with_reducible refine Below.drew ?_) | (with_reducible refine below_drewN ?_ _) | ((with_reducible refine below_call (by assumption) ?_ ?_); · (first | omega | (simp; done) | (simp; omega)))))

set_option maxHeartbeats 400000 in
theorem failed_any (s : ByteArray) (a b c : Int) (w : World) :
    Calls Tryd.prog 51 #[.agg #[.string s, .int .i64 a, .int .i64 b], .int .i64 c] w fun e w' => e = .returned (.agg #[.string s, .int .i64 a, .int .i64 c]) ∧ Below w.heap.size w w' := by
  go_enter Tryd.func51, Tryd.ntmps51
  go_wp2
  refine bodyPost_ret (v := .agg #[.string s, .int .i64 a, .int .i64 c]) (by simp [results, Tryd.results51, go_sem]) rfl ⟨rfl, ?_⟩
  (repeat (first | (with_reducible exact Below.refl _ _) | ((with_reducible refine below_alloc ?_ ?_ _); · (first | omega | (simp; done) | (simp; omega))) | ((with_reducible refine below_setCell ?_ ?_ _); · (first | omega | (simp; done) | (simp; omega))) | (with_reducible refine Below.drew ?_) | (with_reducible refine below_drewN ?_ _) | ((with_reducible refine below_call (by assumption) ?_ ?_); · (first | omega | (simp; done) | (simp; omega)))))

set_option maxHeartbeats 400000 in
theorem isWidth_any (n : Int) (w : World) :
    Calls Tryd.prog 50 #[.int .i64 n] w fun e w' => e = .returned (.bool (wide n)) ∧ w = w' := by
  go_enter Tryd.func50, Tryd.ntmps50
  go_wp2
  all_goals (go_ret; refine ⟨?_, rfl⟩)
  all_goals exact ret_bool (by simp [wide, *])

set_option maxHeartbeats 400000 in
theorem open_any (s : ByteArray) (w : World) :
    Calls Tryd.prog 31 #[.string s] w fun e w' => e = .returned (.agg #[.string s, .int .i64 0, .int .i64 0]) ∧ Below w.heap.size w w' := by
  go_enter Tryd.func31, Tryd.ntmps31
  go_wp2
  refine bodyPost_ret (v := .agg #[.string s, .int .i64 0, .int .i64 0]) (by simp [results, Tryd.results31, go_sem]) rfl ⟨rfl, ?_⟩
  (repeat (first | (with_reducible exact Below.refl _ _) | ((with_reducible refine below_alloc ?_ ?_ _); · (first | omega | (simp; done) | (simp; omega))) | ((with_reducible refine below_setCell ?_ ?_ _); · (first | omega | (simp; done) | (simp; omega))) | (with_reducible refine Below.drew ?_) | (with_reducible refine below_drewN ?_ _) | ((with_reducible refine below_call (by assumption) ?_ ?_); · (first | omega | (simp; done) | (simp; omega)))))

set_option maxHeartbeats 400000 in
theorem left_any (s : ByteArray) (a b : Int) (w : World) (hs : s.size ≤ maxLen) :
    Calls Tryd.prog 33 #[.agg #[.string s, .int .i64 a, .int .i64 b]] w fun e w' => e = .returned (.int .i64 (leftN s a b)) ∧ Below w.heap.size w w' := by
  have hs' := hs
  unfold maxLen at hs'
  by_cases hc : chk s a b = 0
  · obtain ⟨rfl, h0, h1⟩ : b = 0 ∧ 0 ≤ a ∧ a ≤ s.size := chk_zero hc
    have hc1 : (chk s a 0 != 0) = false := by simp [hc]
    have Hc := Lib.hid hc
    clear hc
    go_enter Tryd.func33, Tryd.ntmps33
    go_wp2_with (go_at_call 49; refine (checked_any _ _ _ _ hs).mono ?_; rintro e w1 ⟨rfl, hb1⟩; obtain ⟨hk, hf⟩ := bcell hb1)
    go_ret
    exact ⟨ret_int (by rw [leftN_ok Hc.out]), by (repeat (first | (with_reducible exact Below.refl _ _) | ((with_reducible refine below_alloc ?_ ?_ _); · (first | omega | (simp; done) | (simp; omega))) | ((with_reducible refine below_setCell ?_ ?_ _); · (first | omega | (simp; done) | (simp; omega))) | (with_reducible refine Below.drew ?_) | (with_reducible refine below_drewN ?_ _) | ((with_reducible refine below_call (by assumption) ?_ ?_); · (first | omega | (simp; done) | (simp; omega)))))⟩
  · have hc1 : (chk s a b != 0) = true := by simp [hc]
    go_enter Tryd.func33, Tryd.ntmps33
    go_wp2_with (go_at_call 49; refine (checked_any _ _ _ _ hs).mono ?_; rintro e w1 ⟨rfl, hb1⟩; obtain ⟨hk, hf⟩ := bcell hb1)
    go_ret
    exact ⟨ret_int (by rw [leftN_bad hc]), by (repeat (first | (with_reducible exact Below.refl _ _) | ((with_reducible refine below_alloc ?_ ?_ _); · (first | omega | (simp; done) | (simp; omega))) | ((with_reducible refine below_setCell ?_ ?_ _); · (first | omega | (simp; done) | (simp; omega))) | (with_reducible refine Below.drew ?_) | (with_reducible refine below_drewN ?_ _) | ((with_reducible refine below_call (by assumption) ?_ ?_); · (first | omega | (simp; done) | (simp; omega)))))⟩

def doneN (s : ByteArray) (a b : Int) : Int := if chk s a b ≠ 0 then chk s a b else if a < s.size then 4 else 0
set_option maxHeartbeats 400000 in
theorem done_any (s : ByteArray) (a b : Int) (w : World) (hs : s.size ≤ maxLen) :
    Calls Tryd.prog 48 #[.agg #[.string s, .int .i64 a, .int .i64 b]] w fun e w' => e = .returned (.int .i64 (doneN s a b)) ∧ Below w.heap.size w w' := by
  have hs' := hs
  unfold maxLen at hs'
  by_cases hc : chk s a b = 0
  · obtain ⟨rfl, h0, h1⟩ : b = 0 ∧ 0 ≤ a ∧ a ≤ s.size := chk_zero hc
    have hc1 : (chk s a 0 != 0) = false := by simp [hc]
    have Hc := Lib.hid hc
    clear hc
    by_cases hl : a < s.size
    all_goals
      go_enter Tryd.func48, Tryd.ntmps48
      go_wp2_with (go_at_call 49; refine (checked_any _ _ _ _ hs).mono ?_; rintro e w1 ⟨rfl, hb1⟩; obtain ⟨hk, hf⟩ := bcell hb1)
      go_ret
      exact ⟨ret_int (by simp [doneN, Hc.out, hl]), by (repeat (first | (with_reducible exact Below.refl _ _) | ((with_reducible refine below_alloc ?_ ?_ _); · (first | omega | (simp; done) | (simp; omega))) | ((with_reducible refine below_setCell ?_ ?_ _); · (first | omega | (simp; done) | (simp; omega))) | (with_reducible refine Below.drew ?_) | (with_reducible refine below_drewN ?_ _) | ((with_reducible refine below_call (by assumption) ?_ ?_); · (first | omega | (simp; done) | (simp; omega)))))⟩
  · have hc1 : (chk s a b != 0) = true := by simp [hc]
    go_enter Tryd.func48, Tryd.ntmps48
    go_wp2_with (go_at_call 49; refine (checked_any _ _ _ _ hs).mono ?_; rintro e w1 ⟨rfl, hb1⟩; obtain ⟨hk, hf⟩ := bcell hb1)
    go_ret
    exact ⟨ret_int (by simp [doneN, hc]), by (repeat (first | (with_reducible exact Below.refl _ _) | ((with_reducible refine below_alloc ?_ ?_ _); · (first | omega | (simp; done) | (simp; omega))) | ((with_reducible refine below_setCell ?_ ?_ _); · (first | omega | (simp; done) | (simp; omega))) | (with_reducible refine Below.drew ?_) | (with_reducible refine below_drewN ?_ _) | ((with_reducible refine below_call (by assumption) ?_ ?_); · (first | omega | (simp; done) | (simp; omega)))))⟩

end Go.Proofs.YtackinamkibmlaaDoor
namespace Go.Proofs.YtackinamkibmlaaDoor
open Go.RowKit
set_option linter.unusedVariables false
set_option linter.unusedSimpArgs false

/-- the number that bytes are, the highest first -/
def be (l : List UInt8) : Int := l.foldl (fun n c => 256 * n + (c.toNat : Int)) 0
theorem be_snoc (l : List UInt8) (c : UInt8) : be (l ++ [c]) = 256 * be l + (c.toNat : Int) := by simp [be]
theorem be_nonneg (l : List UInt8) : 0 ≤ be l := by
  unfold be
  suffices h : ∀ (l : List UInt8) (n : Int), 0 ≤ n → 0 ≤ l.foldl (fun n c => 256 * n + (c.toNat : Int)) n from h l 0 (Int.le_refl 0)
  intro l
  induction l with
  | nil => intro n h; exact h
  | cons c r ih => intro n h; exact ih _ (by show 0 ≤ 256 * n + (c.toNat : Int); omega)
theorem be_lt (l : List UInt8) : be l < 256 ^ l.length := by
  suffices h : ∀ k (l : List UInt8), l.length = k → be l < 256 ^ k from h _ l rfl
  intro k
  induction k with
  | zero => intro l h; rw [List.eq_nil_of_length_eq_zero h]; decide
  | succ k ih =>
    intro l h
    rcases List.eq_nil_or_concat l with rfl | ⟨r, c, rfl⟩
    · simp at h
    · have h1 := ih r (by simpa using h)
      have h2 := c.toNat_lt
      rw [List.concat_eq_append, be_snoc, Int.pow_succ]
      omega
/-- k bytes from a on -/
def cut (s : ByteArray) (a k : Nat) : List UInt8 := (s.data.toList.drop a).take k
theorem cut_succ {s : ByteArray} {a k : Nat} (h : a + k < s.size) : cut s a (k + 1) = cut s a k ++ [s[a + k]] := by
  have h' : k < (s.data.toList.drop a).length := by simp; simpa using (by have : s.size = s.data.size := rfl; omega : k < s.data.size - a)
  unfold cut
  rw [List.take_succ_eq_append_getElem h']
  simp; rfl
theorem cut_len {s : ByteArray} {a k : Nat} (h : a + k ≤ s.size) : (cut s a k).length = k := by
  have : s.size = s.data.size := rfl
  simp [cut]; omega
theorem be_cut_lt {s : ByteArray} {a k : Nat} (h : a + k ≤ s.size) (hk : k ≤ 6) : be (cut s a k) < 281474976710656 := by
  have h1 := be_lt (cut s a k)
  rw [cut_len h] at h1
  have h2 : (256 : Int) ^ k ≤ 256 ^ 6 := by
    have : k = 0 ∨ k = 1 ∨ k = 2 ∨ k = 3 ∨ k = 4 ∨ k = 5 ∨ k = 6 := by omega
    rcases this with h | h | h | h | h | h | h <;> subst h <;> decide
  have h3 : (256 : Int) ^ 6 = 281474976710656 := by decide
  omega

theorem byte_step {x : Int} (h0 : 0 ≤ x) (h1 : x < 281474976710656) (c : UInt8) : wrap64 (256 * x + wrap64 (c.toNat : Int)) = 256 * x + (c.toNat : Int) := by
  have hc := c.toNat_lt
  rw [IntWalk.wrap64_in (c.toNat : Int) ⟨by omega, by omega⟩, IntWalk.wrap64_in _ ⟨by omega, by omega⟩]
theorem or_byte_nat (x c : Nat) (hx : x < 281474976710656) (hc : c < 256) : bits .or .i64 ((x : Int) * 256) (c : Int) = 256 * (x : Int) + (c : Int) := by
  have e1 : BitVec.ofInt 64 ((x : Int) * 256) = BitVec.ofNat 64 (x * 256) := by
    have : ((x : Int) * 256) = ((x * 256 : Nat) : Int) := by omega
    rw [this, BitVec.ofInt_natCast]
  have e2 : BitVec.ofInt 64 (c : Int) = BitVec.ofNat 64 c := by rw [BitVec.ofInt_natCast]
  have e3 : (BitVec.ofNat 64 (x * 256) ||| BitVec.ofNat 64 c).toNat = 256 * x + c := by
    rw [BitVec.toNat_or, BitVec.toNat_ofNat, BitVec.toNat_ofNat, Nat.mod_eq_of_lt (by omega), Nat.mod_eq_of_lt (by omega), Nat.mul_comm x 256]
    have h := Nat.two_pow_add_eq_or_of_lt (i := 8) (b := c) (by omega) x
    simpa using h.symm
  unfold bits
  show IntKind.i64.wrap (((BitVec.ofInt 64 ((x : Int) * 256) ||| BitVec.ofInt 64 (c : Int)).toNat : Nat) : Int) = _
  rw [e1, e2, e3, IntKind.wrap_i64]
  omega
theorem or_byte {x : Int} (h0 : 0 ≤ x) (h1 : x < 281474976710656) (c : UInt8) : bits .or .i64 (x * 256) (wrap64 (c.toNat : Int)) = 256 * x + (c.toNat : Int) := by
  have hc := c.toNat_lt
  rw [IntWalk.wrap64_in (c.toNat : Int) ⟨by omega, by omega⟩]
  obtain ⟨n, rfl⟩ : ∃ n : Nat, x = n := ⟨x.toNat, by omega⟩
  exact or_byte_nat n c.toNat (by omega) (by omega)
def numA (s : ByteArray) (a b n : Int) : Int := if chk s a b = 0 ∧ wide n = true ∧ n ≤ s.size - a then a + n else a
def numB (s : ByteArray) (a b n : Int) : Int := if chk s a b ≠ 0 then chk s a b else if wide n = false then 2 else if (s.size : Int) - a < n then 3 else 0
def numN (s : ByteArray) (a b n : Int) : Int := if chk s a b = 0 ∧ wide n = true ∧ n ≤ s.size - a then be (cut s a.toNat n.toNat) else 0
def numV (s : ByteArray) (a b n : Int) : Value := .tuple #[.agg #[.string s, .int .i64 (numA s a b n), .int .i64 (numB s a b n)], .int .i64 (numN s a b n)]

theorem numV_bad {s : ByteArray} {a b n : Int} (h : ¬ chk s a b = 0) : numV s a b n = .tuple #[.agg #[.string s, .int .i64 a, .int .i64 (chk s a b)], .int .i64 0] := by simp [numV, numA, numB, numN, h]
theorem numV_arg {s : ByteArray} {a b n : Int} (h : chk s a b = 0) (hw : wide n = false) : numV s a b n = .tuple #[.agg #[.string s, .int .i64 a, .int .i64 2], .int .i64 0] := by simp [numV, numA, numB, numN, h, hw]
theorem numV_cut {s : ByteArray} {a b n : Int} (h : chk s a b = 0) (hw : wide n = true) (hl : (s.size : Int) - a < n) : numV s a b n = .tuple #[.agg #[.string s, .int .i64 a, .int .i64 3], .int .i64 0] := by
  have : ¬ n ≤ (s.size : Int) - a := by omega
  simp [numV, numA, numB, numN, h, hw, hl, this]
theorem numV_ok {s : ByteArray} {a b n : Int} (h : chk s a b = 0) (hw : wide n = true) (hl : n ≤ (s.size : Int) - a) : numV s a b n = .tuple #[.agg #[.string s, .int .i64 (a + n), .int .i64 0], .int .i64 (be (cut s a.toNat n.toNat))] := by
  have : ¬ (s.size : Int) - a < n := by omega
  simp [numV, numA, numB, numN, h, hw, hl, this]
theorem wide_bd {n : Int} (h : wide n = true) : 1 ≤ n ∧ n ≤ 6 := by
  simp [wide] at h; omega
end Go.Proofs.YtackinamkibmlaaDoor
namespace Go.Proofs.YtackinamkibmlaaDoor
open Go.RowKit
set_option linter.unusedVariables false
set_option linter.unusedSimpArgs false

set_option maxHeartbeats 1000000 in
theorem num_any (s : ByteArray) (a b n : Int) (w : World) (hs : s.size ≤ maxLen) :
    Calls Tryd.prog 30 #[.agg #[.string s, .int .i64 a, .int .i64 b], .int .i64 n] w fun e w' => e = .returned (numV s a b n) ∧ Below w.heap.size w w' := by
  have hs' := hs
  unfold maxLen at hs'
  by_cases hc : chk s a b = 0
  · obtain ⟨rfl, h0, h1⟩ : b = 0 ∧ 0 ≤ a ∧ a ≤ s.size := chk_zero hc
    obtain ⟨a, rfl⟩ : ∃ x : Nat, a = x := ⟨a.toNat, by omega⟩
    have hc1 : (chk s a 0 != 0) = false := by simp [hc]
    have Hc := Lib.hid hc
    clear hc
    by_cases hw : wide n = true
    · obtain ⟨hn1, hn6⟩ := wide_bd hw
      obtain ⟨n, rfl⟩ : ∃ x : Nat, n = x := ⟨n.toNat, by omega⟩
      have hw1 : (!wide n) = false := by simp [hw]
      have Hw := Lib.hid hw
      clear hw
      by_cases hl : (n : Int) ≤ (s.size : Int) - a
      · go_enter Tryd.func30, Tryd.ntmps30
        go_wp2_with (first | (go_at_call 49; refine (checked_any _ _ _ _ hs).mono ?_; rintro e w1 ⟨rfl, hb1⟩; obtain ⟨hk1, hf1, hz1⟩ := bcellN (n := w.heap.size + 2) (by (try simp only [World.size_drew, World.size_alloc, World.size_setCell]); omega) hb1; have hz1_0 : w.heap.size < w1.heap.size := (by omega); have hz1_1 : w.heap.size + 1 < w1.heap.size := (by omega)) | (go_at_call 50; refine (isWidth_any _ _).mono ?_; rintro e w' ⟨rfl, rfl⟩))
        have hR : Row3 (((w1.setCell ⟨w.heap.size, 0, none⟩ (.string s)).setCell ⟨w.heap.size, 1, none⟩ (.int .i64 a)).setCell ⟨w.heap.size, 2, none⟩ (.int .i64 (chk s a 0))) w.heap.size (.string s) (.int .i64 a) (.int .i64 0) := by
          have h : Row3 w1 w.heap.size (.string s) (.int .i64 a) (.int .i64 0) := by simp [Row3, hk1, hf1]
          have h' := ((h.set0 (.string s)).set1 (.int .i64 a)).set2 (.int .i64 (chk s a 0))
          rw [Hc.out] at h' ⊢; exact h'
        have hS2 : Row3 (((w1.setCell ⟨w.heap.size, 0, none⟩ (.string s)).setCell ⟨w.heap.size, 1, none⟩ (.int .i64 a)).setCell ⟨w.heap.size, 2, none⟩ (.int .i64 (chk s a 0))) (w.heap.size + 1) (.string ⟨#[]⟩) (.int .i64 0) (.int .i64 0) := by
          have h : Row3 w1 (w.heap.size + 1) (.string ⟨#[]⟩) (.int .i64 0) (.int .i64 0) := by simp [Row3, hk1, hf1]
          exact ((h.other (by simp) _).other (by simp) _).other (by simp) _
        have hB : Below w.heap.size w (((w1.setCell ⟨w.heap.size, 0, none⟩ (.string s)).setCell ⟨w.heap.size, 1, none⟩ (.int .i64 a)).setCell ⟨w.heap.size, 2, none⟩ (.int .i64 (chk s a 0))) := by (repeat (first | (with_reducible exact Below.refl _ _) | ((with_reducible refine below_alloc ?_ ?_ _); · (first | omega | (simp; done) | (simp; omega))) | ((with_reducible refine below_setCell ?_ ?_ _); · (first | omega | (simp; done) | (simp; omega))) | (with_reducible refine Below.drew ?_) | (with_reducible refine below_drewN ?_ _) | ((with_reducible refine below_call (by assumption) ?_ ?_); · (first | omega | (simp; done) | (simp; omega)))))
        generalize (((w1.setCell ⟨w.heap.size, 0, none⟩ (.string s)).setCell ⟨w.heap.size, 1, none⟩ (.int .i64 a)).setCell ⟨w.heap.size, 2, none⟩ (.int .i64 (chk s a 0))) = wo at hR hS2 hB ⊢
        clear hk1 hf1 hb1
        obtain ⟨⟨c0, c1, c2⟩, f0, f1, f2⟩ := id hR
        obtain ⟨⟨d0, d1, d2⟩, g0, g1, g2⟩ := id hS2
        go_loop [6, 30] (fun v i => ∃ k : Nat, (k : Int) ≤ n ∧ i = .int .i64 k ∧ v = .int .i64 (be (cut s a k))) (fun _ i => n - (intOf i).toNat)
        case atStart => exact ⟨0, by omega, rfl, rfl⟩
        case round =>
          obtain ⟨k, hkn, rfl, rfl⟩ := hrel
          by_cases hlt : (k : Int) < n
          · have hidx : a + k < s.size := by omega
            have hs1 := cut_succ hidx
            have hS : Hid (be (cut s a (k + 1)) = 256 * be (cut s a k) + (s[a + k].toNat : Int)) := by rw [hs1]; exact be_snoc _ _
            have b0 := be_nonneg (cut s a k)
            have b1 := be_cut_lt (s := s) (a := a) (k := k) (by omega) (by omega)
            have hN : Hid (bits BinOp.or IntKind.i64 (be (cut s a k) * 256) (wrap64 (s[a + k].toNat : Int)) = 256 * be (cut s a k) + (s[a + k].toNat : Int)) := or_byte b0 b1 _
            clear hs1
            go_wp2
            go_round
            case rel => exact ⟨k + 1, by omega, by go_num, by rw [hS.out, hN.out]⟩
            case measure => simp [intOf]; omega
          · obtain rfl : n = k := by omega
            have Y := Lib.hid (numV_ok Hc.out Hw.out (show (n : Int) ≤ (s.size : Int) - a by omega))
            clear hlt hkn hw1
            go_wp2
            refine bodyPost_ret (v := .tuple #[.agg #[.string s, .int .i64 (a + n), .int .i64 0], .int .i64 (be (cut s a n))]) (by simp [results, Tryd.results30, go_sem, c0, c1, c2, d0, d1, d2]) rfl ⟨by rw [Y.out, Int.toNat_natCast, Int.toNat_natCast], ?_⟩
            (repeat (first | (with_reducible exact Below.refl _ _) | ((with_reducible refine below_alloc ?_ ?_ _); · (first | omega | (simp; done) | (simp; omega))) | ((with_reducible refine below_setCell ?_ ?_ _); · (first | omega | (simp; done) | (simp; omega))) | (with_reducible refine Below.drew ?_) | (with_reducible refine below_drewN ?_ _) | ((with_reducible refine below_call (by assumption) ?_ ?_); · (first | omega | (simp; done) | (simp; omega)))))
      · have hl2 : (s.size : Int) - a < n := by omega
        go_enter Tryd.func30, Tryd.ntmps30
        go_wp2_with (first | (go_at_call 49; refine (checked_any _ _ _ _ hs).mono ?_; rintro e w1 ⟨rfl, hb1⟩; obtain ⟨hk1, hf1, hz1⟩ := bcellN (n := w.heap.size + 2) (by (try simp only [World.size_drew, World.size_alloc, World.size_setCell]); omega) hb1; have hz1_0 : w.heap.size < w1.heap.size := (by omega); have hz1_1 : w.heap.size + 1 < w1.heap.size := (by omega)) | (go_at_call 50; refine (isWidth_any _ _).mono ?_; rintro e w' ⟨rfl, rfl⟩) | (go_at_call 51; refine (failed_any _ _ _ _ _).mono ?_; rintro e w3 ⟨rfl, hb3⟩; obtain ⟨hk3, hf3, hz3⟩ := bcellN (n := w.heap.size + 2) (by (try simp only [World.size_drew, World.size_alloc, World.size_setCell]); omega) hb3; have hz3_0 : w.heap.size < w3.heap.size := (by omega); have hz3_1 : w.heap.size + 1 < w3.heap.size := (by omega)))
        refine bodyPost_ret (v := .tuple #[.agg #[.string s, .int .i64 a, .int .i64 3], .int .i64 0]) (by simp [results, Tryd.results30, go_sem, hk1, hk3]) rfl ⟨by rw [numV_cut Hc.out Hw.out hl2], ?_⟩
        (repeat (first | (with_reducible exact Below.refl _ _) | ((with_reducible refine below_alloc ?_ ?_ _); · (first | omega | (simp; done) | (simp; omega))) | ((with_reducible refine below_setCell ?_ ?_ _); · (first | omega | (simp; done) | (simp; omega))) | (with_reducible refine Below.drew ?_) | (with_reducible refine below_drewN ?_ _) | ((with_reducible refine below_call (by assumption) ?_ ?_); · (first | omega | (simp; done) | (simp; omega)))))
    · have hw' : wide n = false := by simpa using hw
      have hw1 : (!wide n) = true := by simp [hw']
      have Hw := Lib.hid hw'
      clear hw' hw
      go_enter Tryd.func30, Tryd.ntmps30
      go_wp2_with (first | (go_at_call 49; refine (checked_any _ _ _ _ hs).mono ?_; rintro e w1 ⟨rfl, hb1⟩; obtain ⟨hk1, hf1, hz1⟩ := bcellN (n := w.heap.size + 2) (by (try simp only [World.size_drew, World.size_alloc, World.size_setCell]); omega) hb1; have hz1_0 : w.heap.size < w1.heap.size := (by omega); have hz1_1 : w.heap.size + 1 < w1.heap.size := (by omega)) | (go_at_call 50; refine (isWidth_any _ _).mono ?_; rintro e w' ⟨rfl, rfl⟩) | (go_at_call 51; refine (failed_any _ _ _ _ _).mono ?_; rintro e w3 ⟨rfl, hb3⟩; obtain ⟨hk3, hf3, hz3⟩ := bcellN (n := w.heap.size + 2) (by (try simp only [World.size_drew, World.size_alloc, World.size_setCell]); omega) hb3; have hz3_0 : w.heap.size < w3.heap.size := (by omega); have hz3_1 : w.heap.size + 1 < w3.heap.size := (by omega)))
      refine bodyPost_ret (v := .tuple #[.agg #[.string s, .int .i64 a, .int .i64 2], .int .i64 0]) (by simp [results, Tryd.results30, go_sem, hk1, hk3]) rfl ⟨by rw [numV_arg Hc.out Hw.out], ?_⟩
      (repeat (first | (with_reducible exact Below.refl _ _) | ((with_reducible refine below_alloc ?_ ?_ _); · (first | omega | (simp; done) | (simp; omega))) | ((with_reducible refine below_setCell ?_ ?_ _); · (first | omega | (simp; done) | (simp; omega))) | (with_reducible refine Below.drew ?_) | (with_reducible refine below_drewN ?_ _) | ((with_reducible refine below_call (by assumption) ?_ ?_); · (first | omega | (simp; done) | (simp; omega)))))
  · have hc1 : (chk s a b != 0) = true := by simp [hc]
    go_enter Tryd.func30, Tryd.ntmps30
    go_wp2_with (go_at_call 49; refine (checked_any _ _ _ _ hs).mono ?_; rintro e w1 ⟨rfl, hb1⟩; obtain ⟨hk1, hf1, hz1⟩ := bcellN (n := w.heap.size + 2) (by (try simp only [World.size_drew, World.size_alloc, World.size_setCell]); omega) hb1; have hz1_0 : w.heap.size < w1.heap.size := (by omega); have hz1_1 : w.heap.size + 1 < w1.heap.size := (by omega))
    refine bodyPost_ret (v := .tuple #[.agg #[.string s, .int .i64 a, .int .i64 (chk s a b)], .int .i64 0]) (by simp [results, Tryd.results30, go_sem, hk1]) rfl ⟨by rw [numV_bad hc], ?_⟩
    (repeat (first | (with_reducible exact Below.refl _ _) | ((with_reducible refine below_alloc ?_ ?_ _); · (first | omega | (simp; done) | (simp; omega))) | ((with_reducible refine below_setCell ?_ ?_ _); · (first | omega | (simp; done) | (simp; omega))) | (with_reducible refine Below.drew ?_) | (with_reducible refine below_drewN ?_ _) | ((with_reducible refine below_call (by assumption) ?_ ?_); · (first | omega | (simp; done) | (simp; omega)))))
end Go.Proofs.YtackinamkibmlaaDoor
namespace Go.Proofs.YtackinamkibmlaaDoor
open Go.RowKit
set_option linter.unusedVariables false
set_option linter.unusedSimpArgs false

set_option maxHeartbeats 400000 in
theorem part_any (s : ByteArray) (a b : Nat) (w : World) (hs : s.size ≤ 281474976710656) (hab : a ≤ b) (hb : b ≤ s.size) :
    Calls Tryd.prog 79 #[.string s, .int .i64 a, .int .i64 b] w fun e w' => e = .returned (.string (s.extract a b)) ∧ Below w.heap.size w w' := by
  have hx : (s.extract a b).size ≤ 281474976710656 := by simp; omega
  go_enter Tryd.func79, Tryd.ntmps79
  go_wp2_with (go_at_call 34; refine (clone_any _ _ hx).mono ?_; rintro e w1 ⟨rfl, hb1⟩)
  go_ret
  exact ⟨rfl, hb1⟩

/-- the length that stands at a -/
def tlen (s : ByteArray) (a : Nat) : Nat := (be (cut s a 1)).toNat
theorem tlen_lt {s : ByteArray} {a : Nat} (h : a + 1 ≤ s.size) : tlen s a < 256 := by
  have h1 := be_lt (cut s a 1)
  rw [cut_len h] at h1
  have h2 := be_nonneg (cut s a 1)
  unfold tlen; omega
theorem be_tlen (s : ByteArray) (a : Nat) : be (cut s a 1) = (tlen s a : Int) := by
  have h2 := be_nonneg (cut s a 1)
  unfold tlen; omega
def textOk (s : ByteArray) (a b m : Int) : Bool := decide (chk s a b = 0 ∧ 1 ≤ (s.size : Int) - a ∧ (tlen s a.toNat : Int) ≤ m ∧ (tlen s a.toNat : Int) ≤ s.size - (a + 1))
def textA (s : ByteArray) (a b m : Int) : Int := if textOk s a b m = true then a + 1 + tlen s a.toNat else a
def textB (s : ByteArray) (a b m : Int) : Int := if chk s a b ≠ 0 then chk s a b else if (s.size : Int) - a < 1 then 3 else if m < tlen s a.toNat then 5 else if (s.size : Int) - (a + 1) < tlen s a.toNat then 3 else 0
def textS (s : ByteArray) (a b m : Int) : ByteArray := if textOk s a b m = true then s.extract (a.toNat + 1) (a.toNat + 1 + tlen s a.toNat) else ⟨#[]⟩
def textV (s : ByteArray) (a b m : Int) : Value := .tuple #[.agg #[.string s, .int .i64 (textA s a b m), .int .i64 (textB s a b m)], .string (textS s a b m)]
theorem textV_bad {s : ByteArray} {a b m : Int} (h : ¬ chk s a b = 0) : textV s a b m = .tuple #[.agg #[.string s, .int .i64 a, .int .i64 (chk s a b)], .string ⟨#[]⟩] := by simp [textV, textA, textB, textS, textOk, h]
theorem textV_cut {s : ByteArray} {a b m : Int} (h : chk s a b = 0) (h1 : (s.size : Int) - a < 1) : textV s a b m = .tuple #[.agg #[.string s, .int .i64 a, .int .i64 3], .string ⟨#[]⟩] := by
  have : ¬ 1 ≤ (s.size : Int) - a := by omega
  simp [textV, textA, textB, textS, textOk, h, h1, this]
theorem textV_long {s : ByteArray} {a b m : Int} (h : chk s a b = 0) (h1 : 1 ≤ (s.size : Int) - a) (h2 : m < tlen s a.toNat) : textV s a b m = .tuple #[.agg #[.string s, .int .i64 a, .int .i64 5], .string ⟨#[]⟩] := by
  have e1 : ¬ (s.size : Int) - a < 1 := by omega
  have e2 : ¬ (tlen s a.toNat : Int) ≤ m := by omega
  simp [textV, textA, textB, textS, textOk, h, h2, e1, e2]
theorem textV_short {s : ByteArray} {a b m : Int} (h : chk s a b = 0) (h1 : 1 ≤ (s.size : Int) - a) (h2 : (tlen s a.toNat : Int) ≤ m) (h3 : (s.size : Int) - (a + 1) < tlen s a.toNat) : textV s a b m = .tuple #[.agg #[.string s, .int .i64 a, .int .i64 3], .string ⟨#[]⟩] := by
  have e1 : ¬ (s.size : Int) - a < 1 := by omega
  have e2 : ¬ m < (tlen s a.toNat : Int) := by omega
  have e3 : ¬ (tlen s a.toNat : Int) ≤ s.size - (a + 1) := by omega
  simp [textV, textA, textB, textS, textOk, h, h3, e1, e2, e3]
theorem textV_ok {s : ByteArray} {a : Nat} {b m : Int} (h : chk s a b = 0) (h1 : 1 ≤ (s.size : Int) - a) (h2 : (tlen s a : Int) ≤ m) (h3 : (tlen s a : Int) ≤ s.size - (a + 1)) : textV s a b m = .tuple #[.agg #[.string s, .int .i64 (a + 1 + tlen s a), .int .i64 0], .string (s.extract (a + 1) (a + 1 + tlen s a))] := by
  have e1 : ¬ (s.size : Int) - a < 1 := by omega
  have e2 : ¬ m < (tlen s a : Int) := by omega
  have e3 : ¬ (s.size : Int) - (a + 1) < tlen s a := by omega
  have e0 : textOk s a b m = true := by simp [textOk, h, h2, h3, h1]
  simp [textV, textA, textB, textS, e0, h, e1, e2, e3]

set_option maxHeartbeats 1000000 in
theorem text_any (s : ByteArray) (a b m : Int) (w : World) (hs : s.size ≤ 281474976710656) :
    Calls Tryd.prog 68 #[.agg #[.string s, .int .i64 a, .int .i64 b], .int .i64 m] w fun e w' => e = .returned (textV s a b m) ∧ Below w.heap.size w w' := by
  have hm : s.size ≤ maxLen := by unfold maxLen; omega
  by_cases hc : chk s a b = 0
  · obtain ⟨rfl, h0, h1⟩ : b = 0 ∧ 0 ≤ a ∧ a ≤ s.size := chk_zero hc
    obtain ⟨a, rfl⟩ : ∃ x : Nat, a = x := ⟨a.toNat, by omega⟩
    by_cases hl : (1 : Int) ≤ (s.size : Int) - a
    · have Y : Hid (numV s a 0 1 = .tuple #[.agg #[.string s, .int .i64 (a + 1), .int .i64 0], .int .i64 (tlen s a)]) := by
        have := numV_ok hc (by decide) hl
        simp only [Int.toNat_natCast, show (1 : Int).toNat = 1 from rfl, be_tlen] at this
        exact this
      have hL : Hid (leftN s (a + 1) 0 = s.size - (a + 1)) := leftN_ok (chk_ok (by omega) (by omega))
      have Hc := Lib.hid hc
      have ht := tlen_lt (s := s) (a := a) (by omega)
      clear hc
      by_cases h2 : m < tlen s a
      · have Z := Lib.hid (textV_long Hc.out hl (by simpa using h2))
        go_enter Tryd.func68, Tryd.ntmps68
        go_wp2_with (first | (go_at_call 30; refine (num_any _ _ _ _ _ hm).mono ?_; rintro e w1 ⟨rfl, hb1⟩; rw [Y.out]; obtain ⟨hk1, hf1, hz1⟩ := bcellN (n := w.heap.size + 2) (by (try simp only [World.size_drew, World.size_alloc, World.size_setCell]); omega) hb1; have hz1_0 : w.heap.size < w1.heap.size := (by omega); have hz1_1 : w.heap.size + 1 < w1.heap.size := (by omega)) | (go_at_call 51; refine (failed_any _ _ _ _ _).mono ?_; rintro e w3 ⟨rfl, hb3⟩; obtain ⟨hk3, hf3, hz3⟩ := bcellN (n := w.heap.size + 3) (by (try simp only [World.size_drew, World.size_alloc, World.size_setCell]); omega) hb3; have hz3_0 : w.heap.size < w3.heap.size := (by omega); have hz3_1 : w.heap.size + 1 < w3.heap.size := (by omega); have hz3_2 : w.heap.size + 2 < w3.heap.size := (by omega)))
        refine bodyPost_ret (v := .tuple #[.agg #[.string s, .int .i64 a, .int .i64 5], .string ⟨#[]⟩]) (by simp [results, Tryd.results68, go_sem, hk1, hz1_0, hz1_1, hk3, hz3_0, hz3_1, hz3_2]) rfl ⟨by rw [Z.out], ?_⟩
        (repeat (first | (with_reducible exact Below.refl _ _) | ((with_reducible refine below_alloc ?_ ?_ _); · (first | omega | (simp; done) | (simp; omega))) | ((with_reducible refine below_setCell ?_ ?_ _); · (first | omega | (simp; done) | (simp; omega))) | (with_reducible refine Below.drew ?_) | (with_reducible refine below_drewN ?_ _) | ((with_reducible refine below_call (by assumption) ?_ ?_); · (first | omega | (simp; done) | (simp; omega)))))
      · by_cases h3 : (s.size : Int) - (a + 1) < tlen s a
        · have Z := Lib.hid (textV_short Hc.out hl (by simpa using h2) (by simpa using h3))
          have h3' : leftN s (a + 1) 0 < tlen s a := by rw [hL.out]; exact h3
          go_enter Tryd.func68, Tryd.ntmps68
          go_wp2_with (first | (go_at_call 30; refine (num_any _ _ _ _ _ hm).mono ?_; rintro e w1 ⟨rfl, hb1⟩; rw [Y.out]; obtain ⟨hk1, hf1, hz1⟩ := bcellN (n := w.heap.size + 2) (by (try simp only [World.size_drew, World.size_alloc, World.size_setCell]); omega) hb1; have hz1_0 : w.heap.size < w1.heap.size := (by omega); have hz1_1 : w.heap.size + 1 < w1.heap.size := (by omega)) | (go_at_call 33; refine (left_any _ _ _ _ hm).mono ?_; rintro e w2 ⟨rfl, hb2⟩; obtain ⟨hk2, hf2, hz2⟩ := bcellN (n := w.heap.size + 3) (by (try simp only [World.size_drew, World.size_alloc, World.size_setCell]); omega) hb2; have hz2_0 : w.heap.size < w2.heap.size := (by omega); have hz2_1 : w.heap.size + 1 < w2.heap.size := (by omega); have hz2_2 : w.heap.size + 2 < w2.heap.size := (by omega); obtain ⟨hk2w1, hf2w1, hz2w1⟩ := bcellAt (b := w1.heap.size) (by (try simp only [World.size_drew, World.size_alloc, World.size_setCell]); omega) hb2) | (go_at_call 51; refine (failed_any _ _ _ _ _).mono ?_; rintro e w3 ⟨rfl, hb3⟩; obtain ⟨hk3, hf3, hz3⟩ := bcellN (n := w.heap.size + 3) (by (try simp only [World.size_drew, World.size_alloc, World.size_setCell]); omega) hb3; have hz3_0 : w.heap.size < w3.heap.size := (by omega); have hz3_1 : w.heap.size + 1 < w3.heap.size := (by omega); have hz3_2 : w.heap.size + 2 < w3.heap.size := (by omega)))
          refine bodyPost_ret (v := .tuple #[.agg #[.string s, .int .i64 a, .int .i64 3], .string ⟨#[]⟩]) (by simp [results, Tryd.results68, go_sem, hk1, hz1_0, hz1_1, hk2, hz2_0, hz2_1, hz2_2, hk3, hz3_0, hz3_1, hz3_2]) rfl ⟨by rw [Z.out], ?_⟩
          (repeat (first | (with_reducible exact Below.refl _ _) | ((with_reducible refine below_alloc ?_ ?_ _); · (first | omega | (simp; done) | (simp; omega))) | ((with_reducible refine below_setCell ?_ ?_ _); · (first | omega | (simp; done) | (simp; omega))) | (with_reducible refine Below.drew ?_) | (with_reducible refine below_drewN ?_ _) | ((with_reducible refine below_call (by assumption) ?_ ?_); · (first | omega | (simp; done) | (simp; omega)))))
        · have Z := Lib.hid (textV_ok (m := m) Hc.out hl (by omega) (by omega))
          have h3' : (tlen s a : Int) ≤ leftN s (a + 1) 0 := by rw [hL.out]; omega
          have hp : ((a : Int) + 1 + tlen s a) ≤ s.size := by omega
          go_enter Tryd.func68, Tryd.ntmps68
          go_wp2_with (first | (go_at_call 30; refine (num_any _ _ _ _ _ hm).mono ?_; rintro e w1 ⟨rfl, hb1⟩; rw [Y.out]; obtain ⟨hk1, hf1, hz1⟩ := bcellN (n := w.heap.size + 2) (by (try simp only [World.size_drew, World.size_alloc, World.size_setCell]); omega) hb1; have hz1_0 : w.heap.size < w1.heap.size := (by omega); have hz1_1 : w.heap.size + 1 < w1.heap.size := (by omega)) | (go_at_call 33; refine (left_any _ _ _ _ hm).mono ?_; rintro e w2 ⟨rfl, hb2⟩; obtain ⟨hk2, hf2, hz2⟩ := bcellN (n := w.heap.size + 3) (by (try simp only [World.size_drew, World.size_alloc, World.size_setCell]); omega) hb2; have hz2_0 : w.heap.size < w2.heap.size := (by omega); have hz2_1 : w.heap.size + 1 < w2.heap.size := (by omega); have hz2_2 : w.heap.size + 2 < w2.heap.size := (by omega); obtain ⟨hk2w1, hf2w1, hz2w1⟩ := bcellAt (b := w1.heap.size) (by (try simp only [World.size_drew, World.size_alloc, World.size_setCell]); omega) hb2) | (go_at_call 51; refine (failed_any _ _ _ _ _).mono ?_; rintro e w3 ⟨rfl, hb3⟩; obtain ⟨hk3, hf3, hz3⟩ := bcellN (n := w.heap.size + 3) (by (try simp only [World.size_drew, World.size_alloc, World.size_setCell]); omega) hb3; have hz3_0 : w.heap.size < w3.heap.size := (by omega); have hz3_1 : w.heap.size + 1 < w3.heap.size := (by omega); have hz3_2 : w.heap.size + 2 < w3.heap.size := (by omega); obtain ⟨hk3w1, hf3w1, hz3w1⟩ := bcellAt (b := w1.heap.size) (by (try simp only [World.size_drew, World.size_alloc, World.size_setCell]); omega) hb3) | (go_at_call 79; refine (part_any s (a + 1) (a + 1 + tlen s a) _ hs (by omega) (by omega)).mono ?_; rintro e w3 ⟨rfl, hb3⟩; obtain ⟨hk3, hf3, hz3⟩ := bcellN (n := w.heap.size + 3) (by (try simp only [World.size_drew, World.size_alloc, World.size_setCell]); omega) hb3; have hz3_0 : w.heap.size < w3.heap.size := (by omega); have hz3_1 : w.heap.size + 1 < w3.heap.size := (by omega); have hz3_2 : w.heap.size + 2 < w3.heap.size := (by omega); obtain ⟨hk3w1, hf3w1, hz3w1⟩ := bcellAt (b := w1.heap.size) (by (try simp only [World.size_drew, World.size_alloc, World.size_setCell]); omega) hb3))
          refine bodyPost_ret (v := .tuple #[.agg #[.string s, .int .i64 (a + 1 + tlen s a), .int .i64 0], .string (s.extract (a + 1) (a + 1 + tlen s a))]) (by simp [results, Tryd.results68, go_sem, hk1, hz1_0, hz1_1, hk2, hz2_0, hz2_1, hz2_2, hk3, hz3_0, hz3_1, hz3_2, hk2w1, hz2w1, hk3w1, hz3w1]) rfl ⟨by rw [Z.out], ?_⟩
          (repeat (first | (with_reducible exact Below.refl _ _) | ((with_reducible refine below_alloc ?_ ?_ _); · (first | omega | (simp; done) | (simp; omega))) | ((with_reducible refine below_setCell ?_ ?_ _); · (first | omega | (simp; done) | (simp; omega))) | (with_reducible refine Below.drew ?_) | (with_reducible refine below_drewN ?_ _) | ((with_reducible refine below_call (by assumption) ?_ ?_); · (first | omega | (simp; done) | (simp; omega)))))
    · have Y := Lib.hid (numV_cut hc (by decide) (show (s.size : Int) - a < 1 by omega))
      have Z := Lib.hid (textV_cut (m := m) hc (show (s.size : Int) - a < 1 by omega))
      clear hc
      go_enter Tryd.func68, Tryd.ntmps68
      go_wp2_with (go_at_call 30; refine (num_any _ _ _ _ _ hm).mono ?_; rintro e w1 ⟨rfl, hb1⟩; rw [Y.out]; obtain ⟨hk1, hf1, hz1⟩ := bcellN (n := w.heap.size + 2) (by (try simp only [World.size_drew, World.size_alloc, World.size_setCell]); omega) hb1; have hz1_0 : w.heap.size < w1.heap.size := (by omega); have hz1_1 : w.heap.size + 1 < w1.heap.size := (by omega))
      refine bodyPost_ret (v := .tuple #[.agg #[.string s, .int .i64 a, .int .i64 3], .string ⟨#[]⟩]) (by simp [results, Tryd.results68, go_sem, hk1, hz1_0, hz1_1]) rfl ⟨by rw [Z.out], ?_⟩
      (repeat (first | (with_reducible exact Below.refl _ _) | ((with_reducible refine below_alloc ?_ ?_ _); · (first | omega | (simp; done) | (simp; omega))) | ((with_reducible refine below_setCell ?_ ?_ _); · (first | omega | (simp; done) | (simp; omega))) | (with_reducible refine Below.drew ?_) | (with_reducible refine below_drewN ?_ _) | ((with_reducible refine below_call (by assumption) ?_ ?_); · (first | omega | (simp; done) | (simp; omega)))))
  · have hc1 : (chk s a b != 0) = true := by simp [hc]
    have Y := Lib.hid (numV_bad (n := 1) hc)
    have Z := Lib.hid (textV_bad (m := m) hc)
    clear hc
    go_enter Tryd.func68, Tryd.ntmps68
    go_wp2_with (go_at_call 30; refine (num_any _ _ _ _ _ hm).mono ?_; rintro e w1 ⟨rfl, hb1⟩; rw [Y.out]; obtain ⟨hk1, hf1, hz1⟩ := bcellN (n := w.heap.size + 2) (by (try simp only [World.size_drew, World.size_alloc, World.size_setCell]); omega) hb1; have hz1_0 : w.heap.size < w1.heap.size := (by omega); have hz1_1 : w.heap.size + 1 < w1.heap.size := (by omega))
    refine bodyPost_ret (v := .tuple #[.agg #[.string s, .int .i64 a, .int .i64 (chk s a b)], .string ⟨#[]⟩]) (by simp [results, Tryd.results68, go_sem, hk1, hz1_0, hz1_1]) rfl ⟨by rw [Z.out], ?_⟩
    (repeat (first | (with_reducible exact Below.refl _ _) | ((with_reducible refine below_alloc ?_ ?_ _); · (first | omega | (simp; done) | (simp; omega))) | ((with_reducible refine below_setCell ?_ ?_ _); · (first | omega | (simp; done) | (simp; omega))) | (with_reducible refine Below.drew ?_) | (with_reducible refine below_drewN ?_ _) | ((with_reducible refine below_call (by assumption) ?_ ?_); · (first | omega | (simp; done) | (simp; omega)))))
def restA (s : ByteArray) (a b : Int) : Int := if chk s a b = 0 then s.size else a
def restS (s : ByteArray) (a b : Int) : ByteArray := if chk s a b = 0 then s.extract a.toNat s.size else ⟨#[]⟩
def restV (s : ByteArray) (a b : Int) : Value := .tuple #[.agg #[.string s, .int .i64 (restA s a b), .int .i64 (chk s a b)], .string (restS s a b)]
theorem restV_bad {s : ByteArray} {a b : Int} (h : ¬ chk s a b = 0) : restV s a b = .tuple #[.agg #[.string s, .int .i64 a, .int .i64 (chk s a b)], .string ⟨#[]⟩] := by simp [restV, restA, restS, h]
theorem restV_ok {s : ByteArray} {a : Nat} {b : Int} (h : chk s a b = 0) : restV s a b = .tuple #[.agg #[.string s, .int .i64 s.size, .int .i64 0], .string (s.extract a s.size)] := by simp [restV, restA, restS, h]

end Go.Proofs.YtackinamkibmlaaDoor
namespace Go.Proofs.YtackinamkibmlaaDoor
open Go.RowKit
open Go.Lib (byteCells)
set_option linter.unusedVariables false
set_option linter.unusedSimpArgs false

/-- the byte that stands at 256^k -/
def dig (n : Int) (k : Nat) : UInt8 := UInt8.ofNat (n / 256 ^ k % 256).toNat
/-- the lowest k bytes, the highest first -/
def lay (n : Int) : Nat → List UInt8
  | 0 => []
  | k + 1 => dig n k :: lay n k
theorem lay_len (n : Int) (k : Nat) : (lay n k).length = k := by
  induction k with
  | zero => rfl
  | succ k ih => simp [lay, ih]
theorem dig_toNat (n : Int) (k : Nat) : ((dig n k).toNat : Int) = n / 256 ^ k % 256 := by
  have h0 : 0 ≤ n / 256 ^ k % 256 := Int.emod_nonneg _ (by decide)
  have h1 : n / 256 ^ k % 256 < 256 := Int.emod_lt_of_pos _ (by decide)
  simp [dig, UInt8.toNat_ofNat]
  omega
def layE (n wd : Int) : Int := if wide wd = false then 2 else if n < 0 ∨ n / 256 ^ wd.toNat ≠ 0 then 8 else 0
def layL (n wd : Int) : List UInt8 := if layE n wd = 0 then lay n wd.toNat else []

theorem pow_le6 {k : Nat} (h : k ≤ 6) : (256 : Int) ^ k ≤ 281474976710656 := by
  have : k = 0 ∨ k = 1 ∨ k = 2 ∨ k = 3 ∨ k = 4 ∨ k = 5 ∨ k = 6 := by omega
  rcases this with h | h | h | h | h | h | h <;> subst h <;> decide
theorem pow28 (k : Nat) : (2 : Int) ^ (8 * k) = 256 ^ k := by rw [Int.pow_mul]; rfl
theorem wrap_u8 (x : Int) : IntKind.u8.wrap x = x % 256 := by
  simp [IntKind.wrap, IntKind.signed, IntKind.bits]

theorem made_zeros (wd : Nat) (n : Int) : byteCells (List.replicate (wd - 0) 0 ++ lay n 0) = (madeCells (Value.int .u8 0).cells (wd * 1)).toList := by
  apply List.ext_getElem
  · simp [lay, byteCells, madeCells]
  · intro i h1 h2
    simp [lay, byteCells, madeCells, Value.cells, Nat.mod_one]
theorem zero_at {wd k : Nat} (h : k < wd) (l : List UInt8) : (byteCells (List.replicate (wd - k) 0 ++ l))[wd - 1 - k]? = some (.int .u8 0) := by
  unfold Lib.byteCells
  rw [List.getElem?_map, List.getElem?_append_left (by simp; omega), List.getElem?_replicate]
  simp; omega
theorem set_dig {wd k : Nat} {n : Int} (h : k < wd) : (byteCells (List.replicate (wd - k) 0 ++ lay n k)).set (wd - 1 - k) (.int .u8 (n / 2 ^ (8 * k) % 256)) = byteCells (List.replicate (wd - (k + 1)) 0 ++ lay n (k + 1)) := by
  have e : Value.int .u8 (n / 2 ^ (8 * k) % 256) = Value.int .u8 ((dig n k).toNat : Int) := by rw [dig_toNat, pow28]
  rw [e]
  have e2 : List.replicate (wd - k) (0 : UInt8) = List.replicate (wd - (k + 1)) 0 ++ [0] := by
    rw [show wd - k = (wd - (k + 1)) + 1 by omega, List.replicate_succ']
  rw [e2]
  unfold Lib.byteCells
  rw [← List.map_set (f := fun b : UInt8 => Value.int .u8 (b.toNat : Int)) (a := dig n k)]
  congr 1
  rw [List.append_assoc, List.set_append_right _ _ (by simp; omega)]
  simp only [List.length_replicate, show wd - 1 - k - (wd - (k + 1)) = 0 by omega]
  rfl

set_option maxHeartbeats 1000000 in
set_option maxRecDepth 1000000 in
theorem lay_any (n wd : Int) (w : World) (hn : -9223372036854775808 ≤ n) (hn' : n ≤ 9223372036854775807) :
    Calls Tryd.prog 66 #[.int .i64 n, .int .i64 wd] w (RetB w (layL n wd) (layE n wd)) := by
  by_cases hw : wide wd = true
  · obtain ⟨h1, h6⟩ := wide_bd hw
    obtain ⟨wd, rfl⟩ : ∃ x : Nat, wd = x := ⟨wd.toNat, by omega⟩
    have hw1 : (!wide wd) = false := by simp [hw]
    by_cases hneg : n < 0
    · have E : layE n wd = 8 := by simp [layE, hw, hneg]
      have L : layL n wd = [] := by simp [layL, E]
      rw [E, L]; clear E L hw
      go_enter Tryd.func66, Tryd.ntmps66
      go_wp2_with (go_at_call 50; refine (isWidth_any _ _).mono ?_; rintro e w' ⟨rfl, rfl⟩)
      go_ret2
      exact RetB.mk (IsB.nil _ _) (Below.refl _ _)
    · by_cases hq : n / 256 ^ wd = 0
      · have E : layE n wd = 0 := by simp [layE, hw, hneg, hq]
        have L : layL n wd = lay n wd := by simp [layL, E]
        rw [E, L]; clear E L hw
        have hq1 : (n / 2 ^ (8 * wd) != 0) = false := by simp [pow28, hq]
        clear hq
        obtain ⟨i0, hi, hz0, hz1, hz2⟩ := info_parts info_u8
        go_enter Tryd.func66, Tryd.ntmps66
        go_wp2_with (first | (go_at_call 50; refine (isWidth_any _ _).mono ?_; rintro e w' ⟨rfl, rfl⟩) | (at_make; (refine wpList_make_full _ rfl _ _ 61 rfl w.heap.size 5 i0 (.int .u8 0) 1 Tryd.underlying61 hi hz0 hz1 _ _ _ _ wd rfl rfl rfl rfl (by rw [hz2]; omega) (by unfold maxLen; omega) (Nat.le_refl _) ?_; intro w1 hown hgr)))
        have hB1 : Below w.heap.size w w1 := (Below.refl _ _).grown hgr (Nat.le_refl _) (fun k hk => by cases hk)
        have hown' : w1.ownsRow w.heap.size 5 1 (.slice (some ⟨w.heap.size, 0, none⟩) wd wd) wd (byteCells (List.replicate (wd - 0) 0 ++ lay n 0)) := by
          rw [show byteCells (List.replicate (wd - 0) 0 ++ lay n 0) = (madeCells (Value.int .u8 0).cells (wd * 1)).toList from made_zeros wd n]; exact hown
        clear hown hgr
        go_loopw [23] (fun i wr => ∃ k : Nat, k ≤ wd ∧ i = .int .i64 k ∧ wr.ownsRow w.heap.size 5 1 (.slice (some ⟨w.heap.size, 0, none⟩) wd wd) wd (byteCells (List.replicate (wd - k) 0 ++ lay n k)) ∧ Below w.heap.size w wr) (fun i _ => wd - (intOf i).toNat)
        case atStart => exact ⟨0, by omega, rfl, hown', hB1⟩
        case round =>
          obtain ⟨k, hk, rfl, ho, hB⟩ := hrel
          by_cases hlt : k < wd
          · have hlt' : (k : Int) < wd := by omega
            have hcell : wr.cell? ⟨w.heap.size, wd - 1 - k, none⟩ = some (.int .u8 0) := by
              rw [ho.cellAt (wd - 1 - k) (by omega)]; exact zero_at hlt _
            have hfr := ho.frozenAt (wd - 1 - k)
            have hst := ho.stored (wd - 1 - k) (.int .u8 (n / 2 ^ (8 * k) % 256))
            rw [set_dig hlt] at hst
            obtain ⟨ho2, hg2⟩ := hst
            have HS := Lib.hid ho2
            have HG := Lib.hid (hB.grown hg2 hB.size (fun k hk => by cases hk; exact Nat.le_refl _))
            have hko : 0 ≤ (wd : Int) - 1 - k := by omega
            have hko2 : (wd : Int) - 1 - k < wd := by omega
            clear ho ho2 hg2 hB1 hB hown'
            go_wp2
            go_roundw
            case rel => exact ⟨k + 1, by omega, by go_num, HS.out, HG.out⟩
            case measure => simp [intOf]; omega
          · obtain rfl : k = wd := by omega
            clear hown'
            go_wp2
            go_ret2
            exact RetB.mk (by have h := ho; rw [Nat.sub_self, List.replicate_zero, List.nil_append] at h; unfold IsB; rw [lay_len]; exact h) hB
      · have E : layE n wd = 8 := by simp [layE, hw, hneg, hq]
        have L : layL n wd = [] := by simp [layL, E]
        rw [E, L]; clear E L hw
        have hq1 : (n / 2 ^ (8 * wd) != 0) = true := by simp [pow28, hq]
        clear hq
        go_enter Tryd.func66, Tryd.ntmps66
        go_wp2_with (go_at_call 50; refine (isWidth_any _ _).mono ?_; rintro e w' ⟨rfl, rfl⟩)
        go_ret2
        exact RetB.mk (IsB.nil _ _) (Below.refl _ _)
  · have hw' : wide wd = false := by simpa using hw
    have E : layE n wd = 2 := by simp [layE, hw']
    have L : layL n wd = [] := by simp [layL, E]
    rw [E, L]
    have hw1 : (!wide wd) = true := by simp [hw']
    clear hw hw' E L
    go_enter Tryd.func66, Tryd.ntmps66
    go_wp2_with (go_at_call 50; refine (isWidth_any _ _).mono ?_; rintro e w' ⟨rfl, rfl⟩)
    go_ret2
    exact RetB.mk (IsB.nil _ _) (Below.refl _ _)

theorem lay_cons (n : Int) (k : Nat) : byteCells (lay n (k + 1)) = [Value.int .u8 (n / 256 ^ k % 256)] ++ byteCells (lay n k) := by
  simp [lay, byteCells, dig_toNat]
theorem div_step (n : Int) (k : Nat) : n / 256 ^ k / 256 = n / 256 ^ (k + 1) := by
  rw [Int.pow_succ, Int.ediv_ediv_of_nonneg (Int.le_of_lt (Int.pow_pos (by decide)))]

end Go.Proofs.YtackinamkibmlaaDoor
namespace Go.Proofs.YtackinamkibmlaaDoor
open Go.RowKit
open Go.Lib (byteCells)
set_option linter.unusedVariables false
set_option linter.unusedSimpArgs false

def sayE (s : ByteArray) (m : Int) : Int := if m < s.size ∨ 255 < s.size then 5 else 0
def sayB (s : ByteArray) : List UInt8 := UInt8.ofNat s.size :: s.data.toList
def sayL (s : ByteArray) (m : Int) : List UInt8 := if sayE s m = 0 then sayB s else []
theorem sayB_len (s : ByteArray) : (sayB s).length = s.size + 1 := by simp [sayB]
theorem sayB_cells {s : ByteArray} (h : s.size ≤ 255) : byteCells (sayB s) = [Value.int .u8 (s.size : Int)] ++ Lib.strCells s := by
  have : (UInt8.ofNat s.size).toNat = s.size := by simp [UInt8.toNat_ofNat]; omega
  simp [sayB, byteCells, Lib.strCells, this]

set_option maxHeartbeats 1000000 in
set_option maxRecDepth 1000000 in
theorem say_any (s : ByteArray) (m : Int) (w : World) :
    Calls Tryd.prog 78 #[.string s, .int .i64 m] w (RetB w (sayL s m) (sayE s m)) := by
  by_cases h1 : m < s.size
  · have E : sayE s m = 5 := by simp [sayE, h1]
    have L : sayL s m = [] := by simp [sayL, E]
    rw [E, L]; clear E L
    go_enter Tryd.func78, Tryd.ntmps78
    go_wp2
    go_ret2
    exact RetB.mk (IsB.nil _ _) (Below.refl _ _)
  · by_cases h2 : 255 < s.size
    · have E : sayE s m = 5 := by simp [sayE, h2]
      have L : sayL s m = [] := by simp [sayL, E]
      rw [E, L]; clear E L
      have h1' : (s.size : Int) ≤ m := by omega
      have h2' : (255 : Int) < s.size := by omega
      go_enter Tryd.func78, Tryd.ntmps78
      go_wp2
      go_ret2
      exact RetB.mk (IsB.nil _ _) (Below.refl _ _)
    · have E : sayE s m = 0 := by simp [sayE]; omega
      have L : sayL s m = sayB s := by simp [sayL, E]
      rw [E, L]; clear E L
      have h1' : (s.size : Int) ≤ m := by omega
      have h2' : (s.size : Int) ≤ 255 := by omega
      have hc := Lib.hid (sayB_cells (show s.size ≤ 255 by omega))
      have hln := Lib.hid (sayB_len s)
      obtain ⟨i0, hi, hz0, hz1, hz2⟩ := info_parts info_u8
      go_enter Tryd.func78, Tryd.ntmps78
      go_wp2_with (first
        | (at_make; (refine wpList_make_own _ rfl _ _ 61 rfl w.heap.size 5 i0 (.int .u8 0) 1 Tryd.underlying61 hi hz0 hz1 _ _ _ (s.size + 1) rfl rfl (by omega) (by rw [hz2]; omega) (by unfold maxLen; omega) (Nat.le_refl _) ?_; intro w1 hown hgr))
        | (at_builtin; (refine wpList_append_own _ rfl _ _ 61 rfl w.heap.size 5 i0 (.int .u8 0) 1 1 Tryd.underlying61 hi hz0 hz1 hz2 rfl (by decide) _ 0 [] rfl (hown.alloc _) ⟨w1.heap.size, 0, none⟩ 1 1 [Value.int .u8 (s.size : Int)] rfl rfl ?_ (by simp [Value.oneCell']) (by unfold maxLen; omega) (by omega) ?_ ?_; (· intro j u hj; exact (World.ownsRow_lit (base := w1.heap.size) (e := 5) (size := 1) w1 #[Value.int .u8 (s.size : Int)] 1 (Nat.le_refl _) (by unfold maxLen; omega) rfl).cells (g := w1.heap.size) rfl j u hj); (· have := hgr.size; first | omega | (simp only [World.size_alloc]; omega)); intro v2 w2 hown2 hgr2 _))
        | (at_builtin; (refine Lib.wpList_append_own_string _ rfl _ _ 61 9 rfl w.heap.size 5 i0 Tryd.underlying61 Tryd.underlying9 hi hz0 hz1 hz2 _ (0 + 1) _ rfl hown2 s rfl (by unfold maxLen; omega) (by omega) ?_ ?_; (· have h1 := hgr.size; have h2 := hgr2.size; (try simp only [World.size_alloc] at h2); omega); intro v3 w3 hown3 hgr3 _)))
      go_ret2
      refine RetB.mk (v := v3) ?_ ?_
      · show w3.ownsRow _ _ _ _ (sayB s).length (byteCells (sayB s))
        rw [hln.out, hc.out, Nat.add_comm]; simpa using hown3
      · have hB1 : Below w.heap.size w w1 := (Below.refl _ _).grown hgr (Nat.le_refl _) (fun k hk => by cases hk)
        have hB2 : Below w.heap.size w w2 := (hB1.alloc hB1.size _).grown hgr2 (by simp; exact Nat.le_succ_of_le hB1.size) (fun k hk => by cases hk; exact Nat.le_refl _)
        exact hB2.grown hgr3 hB2.size (fun k hk => (World.ownsRow.lt hown2 k hk).1)

end Go.Proofs.YtackinamkibmlaaDoor
