/- Layer 10, the mathematics: what a stanza's bytes are, and how they are read; what is put is read, and what is read is put. -/
import Derived.Test.YtackinamkibmlaaDoorA9N
import Derived.Test.YtackinamkibmlaaDoorOctAH
namespace Go.Proofs.YtackinamkibmlaaDoor
open Go.RowKit
set_option linter.unusedVariables false
set_option linter.unusedSimpArgs false

/-- a letter of what a stanza has -/
inductive Lt where
  | lu
  | lr
  | lm
  | ls
  | lp
  | lc
  | ln
def Lt.code : Lt → UInt8
  | .lu => 117
  | .lr => 114
  | .lm => 109
  | .ls => 115
  | .lp => 112
  | .lc => 99
  | .ln => 110
/-- a stanza -/
structure St where
  k : UInt8
  u : ByteArray
  r : ByteArray
  m : ByteArray
  s : Int
  p : Int
  c : Int
  n : Int
abbrev stzV (x : St) : Value := .agg #[.int .u8 (x.k.toNat : Int), .string x.u, .string x.r, .string x.m, .int .i64 x.s, .int .i64 x.p, .int .i64 x.c, .int .i64 x.n]
def St.nil (k : UInt8) : St := ⟨k, ⟨#[]⟩, ⟨#[]⟩, ⟨#[]⟩, 0, 0, 0, 0⟩
/-- what a kind has, in the order of its bytes -/
def hasL (k : Nat) : List Lt :=
  if k = 1 then [.lu, .lr] else if k = 3 then [.ls, .lp] else if k = 5 then [.lu, .ls, .lp] else if (6 ≤ k ∧ k ≤ 11) ∨ k = 14 then [.lu]
  else if k = 12 ∨ k = 15 ∨ k = 36 ∨ k = 41 then [.ln] else if k = 13 then [.lu, .lm] else if k = 32 then [.lc, .ln] else if k = 33 then [.ls, .lc, .ln]
  else if k = 34 then [.lu, .lr, .ls, .lp, .ln] else if k = 35 then [.lu, .lr, .ln] else if k = 38 then [.lu, .lm, .ls, .ln] else if k = 39 then [.lu, .ln] else if k = 40 then [.lu, .lc] else []
/-- what Has tells: the same letters (of Err in another order) -/
def hasO (k : Nat) : List Lt := if k = 33 then [.lc, .ls, .ln] else hasL k
def hasT (k : Nat) : ByteArray := ⟨((hasO k).map Lt.code).toArray⟩
def Lt.same : Lt → Lt → Bool
  | .lu, .lu => true
  | .lr, .lr => true
  | .lm, .lm => true
  | .ls, .ls => true
  | .lp, .lp => true
  | .lc, .lc => true
  | .ln, .ln => true
  | _, _ => false
theorem Lt.same_iff {a b : Lt} : Lt.same a b = true ↔ a = b := by cases a <;> cases b <;> simp [Lt.same]
def hasC (k : Nat) (c : Lt) : Bool := (hasL k).any (Lt.same c)
def knownB (k : Nat) : Bool := decide (1 ≤ k ∧ k ≤ 15) || decide (32 ≤ k ∧ k ≤ 41)
/-- is a letter's part of a stanza zero? -/
def zeroF (x : St) : Lt → Bool
  | .lu => decide (x.u.size = 0)
  | .lr => decide (x.r.size = 0)
  | .lm => decide (x.m.size = 0)
  | .ls => decide (x.s = 0)
  | .lp => decide (x.p = 0)
  | .lc => decide (x.c = 0)
  | .ln => decide (x.n = 0)
def ltrs : List Lt := [.lu, .lr, .lm, .ls, .lp, .lc, .ln]
def extraB (x : St) : Bool := ltrs.any fun c => !zeroF x c && !hasC x.k.toNat c
def rangeB (x : St) : Bool := decide (0 ≤ x.s ∧ x.s ≤ 63) && (decide (-128 ≤ x.p ∧ x.p ≤ 127) && (decide (0 ≤ x.c ∧ x.c ≤ 255) && decide (0 ≤ x.n ∧ x.n ≤ 281474976710655)))
/-- what Check tells -/
def chkS (x : St) : Int :=
  if knownB x.k.toNat = false then 12 else if extraB x = true then 4 else if rangeB x = false then 8 else if 24 < x.m.size then 5
  else if plB x.m.data.toList = false then 11 else if (hasC x.k.toNat .lu && !isB x.u) = true then 11 else resE x.r
/-- a letter's bytes -/
def putF (x : St) : Lt → List UInt8
  | .lu => sayB x.u
  | .lr => sayB x.r
  | .lm => sayB x.m
  | .ls => lay x.s 1
  | .lp => lay (x.p + 128) 1
  | .lc => lay x.c 1
  | .ln => lay x.n 6
def putB (x : St) : List UInt8 := x.k :: (hasL x.k.toNat).flatMap (putF x)
/-- what Put tells, and Size -/
def putT (x : St) : ByteArray := if chkS x = 0 then ⟨(putB x).toArray⟩ else ⟨#[]⟩
/-- reading a letter: where it is, what is wrong, what there is -/
abbrev Rd := Int × Int × St
def getF (s : ByteArray) (q : Rd) : Lt → Rd
  | .lu => (textA s q.1 q.2.1 33, textB s q.1 q.2.1 33, { q.2.2 with u := textS s q.1 q.2.1 33 })
  | .lr => (textA s q.1 q.2.1 12, textB s q.1 q.2.1 12, { q.2.2 with r := textS s q.1 q.2.1 12 })
  | .lm => (textA s q.1 q.2.1 24, textB s q.1 q.2.1 24, { q.2.2 with m := textS s q.1 q.2.1 24 })
  | .ls => (numA s q.1 q.2.1 1, numB s q.1 q.2.1 1, { q.2.2 with s := numN s q.1 q.2.1 1 })
  | .lp => (numA s q.1 q.2.1 1, numB s q.1 q.2.1 1, { q.2.2 with p := numN s q.1 q.2.1 1 - 128 })
  | .lc => (numA s q.1 q.2.1 1, numB s q.1 q.2.1 1, { q.2.2 with c := numN s q.1 q.2.1 1 })
  | .ln => (numA s q.1 q.2.1 6, numB s q.1 q.2.1 6, { q.2.2 with n := numN s q.1 q.2.1 6 })
def getL (s : ByteArray) (l : List Lt) (q : Rd) : Rd := l.foldl (getF s) q
def tailB (b : ByteArray) : ByteArray := b.extract 1 b.size
def headB (b : ByteArray) : UInt8 := b.data.toList.getD 0 0
def readQ (b : ByteArray) : Rd := getL (tailB b) (hasL (headB b).toNat) (0, 0, St.nil (headB b))
/-- what Read tells: its error; its stanza, if there is none -/
def rdE (b : ByteArray) : Int :=
  if b.size = 0 then 3 else if knownB (headB b).toNat = false then 12
  else if doneN (tailB b) (readQ b).1 (readQ b).2.1 = 0 then chkS (readQ b).2.2 else doneN (tailB b) (readQ b).1 (readQ b).2.1
def rdS (b : ByteArray) : St := if rdE b = 0 then (readQ b).2.2 else St.nil 0

/-! ### a letter is read as it was laid -/
/-- what a letter's part of a stanza must be, to be laid -/
def fitF (x : St) : Lt → Prop
  | .lu => x.u.size ≤ 33
  | .lr => x.r.size ≤ 12
  | .lm => x.m.size ≤ 24
  | .ls => 0 ≤ x.s ∧ x.s ≤ 255
  | .lp => -128 ≤ x.p ∧ x.p ≤ 127
  | .lc => 0 ≤ x.c ∧ x.c ≤ 255
  | .ln => 0 ≤ x.n ∧ x.n ≤ 281474976710655
/-- x with y's part of a letter -/
def updF (x y : St) : Lt → St
  | .lu => { x with u := y.u }
  | .lr => { x with r := y.r }
  | .lm => { x with m := y.m }
  | .ls => { x with s := y.s }
  | .lp => { x with p := y.p }
  | .lc => { x with c := y.c }
  | .ln => { x with n := y.n }
theorem be_app (a b : List UInt8) : be (a ++ b) = 256 ^ b.length * be a + be b := by
  induction b generalizing a with
  | nil => simp [be]
  | cons c b ih =>
    have e : a ++ c :: b = (a ++ [c]) ++ b := by simp
    rw [e, ih (a ++ [c]), be_snoc]
    have h2 : be (c :: b) = 256 ^ b.length * (c.toNat : Int) + be b := by
      have := ih [c]
      have h3 : be [c] = (c.toNat : Int) := by simp [be]
      rw [h3] at this
      simpa using this
    rw [h2, List.length_cons, Int.pow_succ]
    rw [Int.mul_add, ← Int.mul_assoc]
    omega
theorem emod_step (n P : Int) (hP : 0 < P) : n % (P * 256) = P * (n / P % 256) + n % P := by
  have h1 : n = P * 256 * (n / P / 256) + (P * (n / P % 256) + n % P) := by
    have a := Int.mul_ediv_add_emod n P
    have b := Int.mul_ediv_add_emod (n / P) 256
    have c : P * (256 * (n / P / 256) + n / P % 256) = P * (n / P) := by rw [b]
    rw [Int.mul_add] at c
    rw [Int.mul_assoc]
    omega
  have h2 : 0 ≤ n % P := Int.emod_nonneg _ (by omega)
  have h3 : n % P < P := Int.emod_lt_of_pos _ hP
  have h4 : 0 ≤ n / P % 256 := Int.emod_nonneg _ (by decide)
  have h5 : n / P % 256 ≤ 255 := by have := Int.emod_lt_of_pos (n / P) (show (0 : Int) < 256 by decide); omega
  have h6 : 0 ≤ P * (n / P % 256) := Int.mul_nonneg (by omega) h4
  have h7 : P * (n / P % 256) ≤ P * 255 := Int.mul_le_mul_of_nonneg_left h5 (by omega)
  conv => lhs; rw [h1]
  rw [Int.add_comm, Int.add_mul_emod_self_left]
  exact Int.emod_eq_of_lt (by omega) (by omega)
theorem be_lay (n : Int) (k : Nat) (h0 : 0 ≤ n) : be (lay n k) = n % 256 ^ k := by
  induction k with
  | zero => simp [lay, be]
  | succ k ih =>
    have hd : lay n (k + 1) = [dig n k] ++ lay n k := rfl
    rw [hd, be_app, ih, lay_len]
    have hb : be [dig n k] = n / 256 ^ k % 256 := by rw [← dig_toNat]; simp [be]
    rw [hb, Int.pow_succ, emod_step n (256 ^ k) (Int.pow_pos (by decide))]
theorem lay_high (n z : Int) (k e : Nat) : lay (256 ^ (k + e) * z + n) k = lay n k := by
  induction k generalizing e with
  | zero => rfl
  | succ k ih =>
    have hd : ∀ y : Int, lay y (k + 1) = dig y k :: lay y k := fun _ => rfl
    rw [hd, hd]
    have e1 : (256 : Int) ^ (k + 1 + e) * z + n = 256 ^ (k + (e + 1)) * z + n := by rw [show k + 1 + e = k + (e + 1) by omega]
    rw [e1, ih (e + 1)]
    have e2 : (256 : Int) ^ (k + (e + 1)) * z + n = 256 ^ k * (256 * (256 ^ e * z)) + n := by
      rw [Int.pow_add, Int.pow_succ]
      simp only [Int.mul_assoc, Int.mul_left_comm, Int.mul_comm]
    have hp : (256 : Int) ^ k ≠ 0 := Int.pow_ne_zero (by decide)
    have e3 : (256 ^ k * (256 * (256 ^ e * z)) + n) / 256 ^ k = 256 * (256 ^ e * z) + n / 256 ^ k := by
      rw [Int.add_comm, Int.add_mul_ediv_left _ _ hp, Int.add_comm]
    have e4 : dig (256 ^ (k + (e + 1)) * z + n) k = dig n k := by
      unfold dig
      rw [e2, e3]
      have : (256 * (256 ^ e * z) + n / 256 ^ k) % 256 = n / 256 ^ k % 256 := by omega
      rw [this]
    rw [e4]
theorem lay_be : ∀ l : List UInt8, lay (be l) l.length = l
  | [] => rfl
  | c :: l => by
    have ih := lay_be l
    have h2 : be (c :: l) = 256 ^ l.length * (c.toNat : Int) + be l := by
      have := be_app [c] l
      have h3 : be [c] = (c.toNat : Int) := by simp [be]
      rw [h3] at this
      simpa using this
    have hb := be_lt l
    have h0 := be_nonneg l
    have hp : (0 : Int) < 256 ^ l.length := Int.pow_pos (by decide)
    show dig (be (c :: l)) l.length :: lay (be (c :: l)) l.length = c :: l
    have hl : lay (be (c :: l)) l.length = l := by
      rw [h2]
      have := lay_high (be l) (c.toNat : Int) l.length 0
      rw [Nat.add_zero] at this
      rw [this, ih]
    have hd : dig (be (c :: l)) l.length = c := by
      unfold dig
      have e : be (c :: l) / 256 ^ l.length = (c.toNat : Int) := by
        rw [h2, Int.add_comm, Int.add_mul_ediv_left _ _ (by omega), Int.ediv_eq_zero_of_lt h0 hb]
        omega
      rw [e]
      have hc := UInt8.toNat_lt c
      have : ((c.toNat : Int) % 256).toNat = c.toNat := by omega
      rw [this]
      exact UInt8.ofNat_toNat
    rw [hl, hd]
end Go.Proofs.YtackinamkibmlaaDoor
