/- Contracts of octet.Num and of the document's Num: the bytes read as a number, the highest first. -/
import Derived.Test.YtbaclfpkaobggaaOctA
namespace Go.Proofs.Ytbaclfpkaobggaa
open Go.RowKit
set_option linter.unusedVariables false
set_option linter.unusedSimpArgs false

/-- the number that bytes are, the highest first -/
def be (l : List UInt8) : Int := l.foldl (fun n c => 256 * n + (c.toNat : Int)) 0
theorem be_snoc (l : List UInt8) (c : UInt8) : be (l ++ [c]) = 256 * be l + (c.toNat : Int) := by simp [be]
theorem be_nonneg (l : List UInt8) : 0 ≤ be l := by
  unfold be
  suffices h : ∀ (l : List UInt8) (n : Int), 0 ≤ n → 0 ≤ l.foldl (fun n c => 256 * n + (c.toNat : Int)) n from h l 0 (Int.le_refl 0)
  intro l
  induction l with
  | nil => intro n h; exact h
  | cons c r ih => intro n h; exact ih _ (by show 0 ≤ 256 * n + (c.toNat : Int); omega)
theorem be_lt (l : List UInt8) : be l < 256 ^ l.length := by
  suffices h : ∀ k (l : List UInt8), l.length = k → be l < 256 ^ k from h _ l rfl
  intro k
  induction k with
  | zero => intro l h; rw [List.eq_nil_of_length_eq_zero h]; decide
  | succ k ih =>
    intro l h
    rcases List.eq_nil_or_concat l with rfl | ⟨r, c, rfl⟩
    · simp at h
    · have h1 := ih r (by simpa using h)
      have h2 := c.toNat_lt
      rw [List.concat_eq_append, be_snoc, Int.pow_succ]
      omega
/-- k bytes from a on -/
def cut (s : ByteArray) (a k : Nat) : List UInt8 := (s.data.toList.drop a).take k
theorem cut_succ {s : ByteArray} {a k : Nat} (h : a + k < s.size) : cut s a (k + 1) = cut s a k ++ [s[a + k]] := by
  have h' : k < (s.data.toList.drop a).length := by simp; simpa using (by have : s.size = s.data.size := rfl; omega : k < s.data.size - a)
  unfold cut
  rw [List.take_succ_eq_append_getElem h']
  simp; rfl
theorem cut_len {s : ByteArray} {a k : Nat} (h : a + k ≤ s.size) : (cut s a k).length = k := by
  have : s.size = s.data.size := rfl
  simp [cut]; omega
theorem be_cut_lt {s : ByteArray} {a k : Nat} (h : a + k ≤ s.size) (hk : k ≤ 6) : be (cut s a k) < 281474976710656 := by
  have h1 := be_lt (cut s a k)
  rw [cut_len h] at h1
  have h2 : (256 : Int) ^ k ≤ 256 ^ 6 := by
    have : k = 0 ∨ k = 1 ∨ k = 2 ∨ k = 3 ∨ k = 4 ∨ k = 5 ∨ k = 6 := by omega
    rcases this with h | h | h | h | h | h | h <;> subst h <;> decide
  have h3 : (256 : Int) ^ 6 = 281474976710656 := by decide
  omega

theorem byte_step {x : Int} (h0 : 0 ≤ x) (h1 : x < 281474976710656) (c : UInt8) : wrap64 (256 * x + wrap64 (c.toNat : Int)) = 256 * x + (c.toNat : Int) := by
  have hc := c.toNat_lt
  rw [IntWalk.wrap64_in (c.toNat : Int) ⟨by omega, by omega⟩, IntWalk.wrap64_in _ ⟨by omega, by omega⟩]
theorem or_byte_nat (x c : Nat) (hx : x < 281474976710656) (hc : c < 256) : bits .or .i64 ((x : Int) * 256) (c : Int) = 256 * (x : Int) + (c : Int) := by
  have e1 : BitVec.ofInt 64 ((x : Int) * 256) = BitVec.ofNat 64 (x * 256) := by
    have : ((x : Int) * 256) = ((x * 256 : Nat) : Int) := by omega
    rw [this, BitVec.ofInt_natCast]
  have e2 : BitVec.ofInt 64 (c : Int) = BitVec.ofNat 64 c := by rw [BitVec.ofInt_natCast]
  have e3 : (BitVec.ofNat 64 (x * 256) ||| BitVec.ofNat 64 c).toNat = 256 * x + c := by
    rw [BitVec.toNat_or, BitVec.toNat_ofNat, BitVec.toNat_ofNat, Nat.mod_eq_of_lt (by omega), Nat.mod_eq_of_lt (by omega), Nat.mul_comm x 256]
    have h := Nat.two_pow_add_eq_or_of_lt (i := 8) (b := c) (by omega) x
    simpa using h.symm
  unfold bits
  show IntKind.i64.wrap (((BitVec.ofInt 64 ((x : Int) * 256) ||| BitVec.ofInt 64 (c : Int)).toNat : Nat) : Int) = _
  rw [e1, e2, e3, IntKind.wrap_i64]
  omega
theorem or_byte {x : Int} (h0 : 0 ≤ x) (h1 : x < 281474976710656) (c : UInt8) : bits .or .i64 (x * 256) (wrap64 (c.toNat : Int)) = 256 * x + (c.toNat : Int) := by
  have hc := c.toNat_lt
  rw [IntWalk.wrap64_in (c.toNat : Int) ⟨by omega, by omega⟩]
  obtain ⟨n, rfl⟩ : ∃ n : Nat, x = n := ⟨x.toNat, by omega⟩
  exact or_byte_nat n c.toNat (by omega) (by omega)
def numA (s : ByteArray) (a b n : Int) : Int := if chk s a b = 0 ∧ wide n = true ∧ n ≤ s.size - a then a + n else a
def numB (s : ByteArray) (a b n : Int) : Int := if chk s a b ≠ 0 then chk s a b else if wide n = false then 2 else if (s.size : Int) - a < n then 3 else 0
def numN (s : ByteArray) (a b n : Int) : Int := if chk s a b = 0 ∧ wide n = true ∧ n ≤ s.size - a then be (cut s a.toNat n.toNat) else 0
def numV (s : ByteArray) (a b n : Int) : Value := .tuple #[.agg #[.string s, .int .i64 (numA s a b n), .int .i64 (numB s a b n)], .int .i64 (numN s a b n)]

theorem numV_bad {s : ByteArray} {a b n : Int} (h : ¬ chk s a b = 0) : numV s a b n = .tuple #[.agg #[.string s, .int .i64 a, .int .i64 (chk s a b)], .int .i64 0] := by simp [numV, numA, numB, numN, h]
theorem numV_arg {s : ByteArray} {a b n : Int} (h : chk s a b = 0) (hw : wide n = false) : numV s a b n = .tuple #[.agg #[.string s, .int .i64 a, .int .i64 2], .int .i64 0] := by simp [numV, numA, numB, numN, h, hw]
theorem numV_cut {s : ByteArray} {a b n : Int} (h : chk s a b = 0) (hw : wide n = true) (hl : (s.size : Int) - a < n) : numV s a b n = .tuple #[.agg #[.string s, .int .i64 a, .int .i64 3], .int .i64 0] := by
  have : ¬ n ≤ (s.size : Int) - a := by omega
  simp [numV, numA, numB, numN, h, hw, hl, this]
theorem numV_ok {s : ByteArray} {a b n : Int} (h : chk s a b = 0) (hw : wide n = true) (hl : n ≤ (s.size : Int) - a) : numV s a b n = .tuple #[.agg #[.string s, .int .i64 (a + n), .int .i64 0], .int .i64 (be (cut s a.toNat n.toNat))] := by
  have : ¬ (s.size : Int) - a < n := by omega
  simp [numV, numA, numB, numN, h, hw, hl, this]
theorem wide_bd {n : Int} (h : wide n = true) : 1 ≤ n ∧ n ≤ 6 := by
  simp [wide] at h; omega
end Go.Proofs.Ytbaclfpkaobggaa
