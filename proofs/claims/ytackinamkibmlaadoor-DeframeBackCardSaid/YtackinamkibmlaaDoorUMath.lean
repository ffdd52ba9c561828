/- The plain mathematics of characters: what one to four bytes tell, and a character's bytes; nothing of the program. -/
import Derived.Lib.DecodeN
import GoSem.Core.Utf8
namespace Go.Proofs.YtackinamkibmlaaDoor
set_option linter.unusedVariables false
set_option linter.unusedSimpArgs false
open Go.Lib

def isCh (c : Nat) : Prop := c < 55296 ∨ (57344 ≤ c ∧ c ≤ 1114111)
instance (c : Nat) : Decidable (isCh c) := by unfold isCh; exact inferInstance
/-- a character's bytes -/
def enc (c : Nat) : List UInt8 :=
  if c < 128 then [UInt8.ofNat c]
  else if c < 2048 then [UInt8.ofNat (192 + c / 64), UInt8.ofNat (128 + c % 64)]
  else if c < 65536 then [UInt8.ofNat (224 + c / 4096), UInt8.ofNat (128 + c / 64 % 64), UInt8.ofNat (128 + c % 64)]
  else [UInt8.ofNat (240 + c / 262144), UInt8.ofNat (128 + c / 4096 % 64), UInt8.ofNat (128 + c / 64 % 64), UInt8.ofNat (128 + c % 64)]
def bt (l : List UInt8) (k : Nat) : Nat := (l.getD k 0).toNat
/-- what Go's decoder tells of these bytes -/
def dec (l : List UInt8) : Nat × Nat := if l.length = 0 then (65533, 0) else decodeN l.length (bt l 0) (bt l 1) (bt l 2) (bt l 3)
/-- the first character (-1: none), and how many bytes it has -/
def nxtC (l : List UInt8) : Int := if (dec l).1 = 65533 ∧ (dec l).2 ≤ 1 then -1 else (dec l).1
def nxtK (l : List UInt8) : Nat := (dec l).2
theorem u8_ofNat {n : Nat} (h : n < 256) : (UInt8.ofNat n).toNat = n := by show n % 256 = n; omega
theorem u8_eq {b : UInt8} {n : Nat} (h : b.toNat = n) : b = UInt8.ofNat n := by subst h; simp
theorem enc_pos (c : Nat) : 0 < (enc c).length := by unfold enc; (repeat' split) <;> simp
theorem enc_len (c : Nat) : 1 ≤ (enc c).length ∧ (enc c).length ≤ 4 := ⟨enc_pos c, by unfold enc; (repeat' split) <;> simp⟩

set_option maxHeartbeats 2000000 in
set_option maxRecDepth 100000 in
theorem dec_enc (c : Nat) (hc : isCh c) (r : List UInt8) : dec (enc c ++ r) = (c, (enc c).length) := by
  unfold isCh at hc
  unfold enc
  split
  · rename_i h
    have : dec ([UInt8.ofNat c] ++ r) = decodeN (r.length + 1) (UInt8.ofNat c).toNat (bt ([UInt8.ofNat c] ++ r) 1) (bt ([UInt8.ofNat c] ++ r) 2) (bt ([UInt8.ofNat c] ++ r) 3) := by
      unfold dec; simp [bt]
    rw [this, u8_ofNat (by omega)]
    unfold decodeN; rw [if_pos h]; rfl
  · split
    · rename_i h1 h
      have : dec ([UInt8.ofNat (192 + c / 64), UInt8.ofNat (128 + c % 64)] ++ r) = decodeN (r.length + 1 + 1) (UInt8.ofNat (192 + c / 64)).toNat (UInt8.ofNat (128 + c % 64)).toNat (bt ([UInt8.ofNat (192 + c / 64), UInt8.ofNat (128 + c % 64)] ++ r) 2) (bt ([UInt8.ofNat (192 + c / 64), UInt8.ofNat (128 + c % 64)] ++ r) 3) := by
        unfold dec; simp [bt]
      rw [this, u8_ofNat (by omega), u8_ofNat (by omega)]
      unfold decodeN
      rw [if_neg (by omega), if_pos (by omega), if_pos (by omega)]
      apply Prod.ext
      · simp only; omega
      · rfl
    · split
      · rename_i h1 h2 h
        have : dec ([UInt8.ofNat (224 + c / 4096), UInt8.ofNat (128 + c / 64 % 64), UInt8.ofNat (128 + c % 64)] ++ r) = decodeN (r.length + 1 + 1 + 1) (UInt8.ofNat (224 + c / 4096)).toNat (UInt8.ofNat (128 + c / 64 % 64)).toNat (UInt8.ofNat (128 + c % 64)).toNat (bt ([UInt8.ofNat (224 + c / 4096), UInt8.ofNat (128 + c / 64 % 64), UInt8.ofNat (128 + c % 64)] ++ r) 3) := by
          unfold dec; simp [bt]
        rw [this, u8_ofNat (by omega), u8_ofNat (by omega), u8_ofNat (by omega)]
        unfold decodeN
        rw [if_neg (by omega), if_neg (by omega), if_pos (by omega), if_pos (by omega)]
        apply Prod.ext
        · simp only; omega
        · rfl
      · rename_i h1 h2 h
        have : dec ([UInt8.ofNat (240 + c / 262144), UInt8.ofNat (128 + c / 4096 % 64), UInt8.ofNat (128 + c / 64 % 64), UInt8.ofNat (128 + c % 64)] ++ r) = decodeN (r.length + 1 + 1 + 1 + 1) (UInt8.ofNat (240 + c / 262144)).toNat (UInt8.ofNat (128 + c / 4096 % 64)).toNat (UInt8.ofNat (128 + c / 64 % 64)).toNat (UInt8.ofNat (128 + c % 64)).toNat := by
          unfold dec; simp [bt]
        rw [this, u8_ofNat (by omega), u8_ofNat (by omega), u8_ofNat (by omega), u8_ofNat (by omega)]
        unfold decodeN
        rw [if_neg (by omega), if_neg (by omega), if_neg (by omega), if_pos (by omega), if_pos (by omega)]
        apply Prod.ext
        · simp only; omega
        · rfl
theorem nxt_enc (c : Nat) (hc : isCh c) (r : List UInt8) : nxtC (enc c ++ r) = c ∧ nxtK (enc c ++ r) = (enc c).length := by
  have h := dec_enc c hc r
  refine ⟨?_, by unfold nxtK; rw [h]⟩
  unfold nxtC
  rw [h, if_neg]
  rintro ⟨h1, h2⟩
  simp only at h1 h2
  subst h1
  revert h2; decide

theorem enc2 (b0 b1 : UInt8) (v : Nat) (hv : v = b0.toNat % 32 * 64 + b1.toNat % 64) (e0 : b0.toNat / 32 = 6) (e1 : b1.toNat / 64 = 2) (h : 128 ≤ v) : isCh v ∧ enc v = [b0, b1] := by
  have hb0 := UInt8.toNat_lt b0
  have hb1 := UInt8.toNat_lt b1
  refine ⟨.inl (by omega), ?_⟩
  unfold enc
  rw [if_neg (by omega), if_pos (by omega)]
  have p0 : b0 = UInt8.ofNat (192 + v / 64) := u8_eq (by omega)
  have p1 : b1 = UInt8.ofNat (128 + v % 64) := u8_eq (by omega)
  rw [← p0, ← p1]
theorem enc3 (b0 b1 b2 : UInt8) (v : Nat) (hv : v = b0.toNat % 16 * 4096 + b1.toNat % 64 * 64 + b2.toNat % 64) (e0 : b0.toNat / 16 = 14) (e1 : b1.toNat / 64 = 2) (e2 : b2.toNat / 64 = 2) (h : 2048 ≤ v) (hc : v < 55296 ∨ (57344 ≤ v ∧ v ≤ 1114111)) : enc v = [b0, b1, b2] := by
  have hb0 := UInt8.toNat_lt b0
  have hb1 := UInt8.toNat_lt b1
  have hb2 := UInt8.toNat_lt b2
  unfold enc
  rw [if_neg (by omega), if_neg (by omega), if_pos (by omega)]
  have p0 : b0 = UInt8.ofNat (224 + v / 4096) := u8_eq (by omega)
  have p1 : b1 = UInt8.ofNat (128 + v / 64 % 64) := u8_eq (by omega)
  have p2 : b2 = UInt8.ofNat (128 + v % 64) := u8_eq (by omega)
  rw [← p0, ← p1, ← p2]
theorem enc4 (b0 b1 b2 b3 : UInt8) (v : Nat) (hv : v = b0.toNat % 8 * 262144 + b1.toNat % 64 * 4096 + b2.toNat % 64 * 64 + b3.toNat % 64) (e0 : b0.toNat / 8 = 30) (e1 : b1.toNat / 64 = 2) (e2 : b2.toNat / 64 = 2) (e3 : b3.toNat / 64 = 2) (h : 65536 ≤ v) (hc : v < 55296 ∨ (57344 ≤ v ∧ v ≤ 1114111)) : enc v = [b0, b1, b2, b3] := by
  have hb0 := UInt8.toNat_lt b0
  have hb1 := UInt8.toNat_lt b1
  have hb2 := UInt8.toNat_lt b2
  have hb3 := UInt8.toNat_lt b3
  unfold enc
  rw [if_neg (by omega), if_neg (by omega), if_neg (by omega)]
  have p0 : b0 = UInt8.ofNat (240 + v / 262144) := u8_eq (by omega)
  have p1 : b1 = UInt8.ofNat (128 + v / 4096 % 64) := u8_eq (by omega)
  have p2 : b2 = UInt8.ofNat (128 + v / 64 % 64) := u8_eq (by omega)
  have p3 : b3 = UInt8.ofNat (128 + v % 64) := u8_eq (by omega)
  rw [← p0, ← p1, ← p2, ← p3]
/-- what was told is a character, and these are its bytes -/
def Told (l : List UInt8) (d : Nat × Nat) : Prop := (d.1 = 65533 ∧ d.2 = 1) ∨ (isCh d.1 ∧ enc d.1 = l.take d.2 ∧ 1 ≤ d.2 ∧ d.2 ≤ 4 ∧ d.2 ≤ l.length)
theorem told_bad (l : List UInt8) : Told l (65533, 1) := .inl ⟨rfl, rfl⟩
theorem told_ok {l : List UInt8} {c k : Nat} (h1 : isCh c) (h2 : enc c = l.take k) (h3 : 1 ≤ k) (h4 : k ≤ 4) (h5 : k ≤ l.length) : Told l (c, k) := .inr ⟨h1, h2, h3, h4, h5⟩
theorem dec_told (l : List UInt8) (hne : l ≠ []) : Told l (dec l) := by
  match l with
  | [] => exact absurd rfl hne
  | b0 :: r =>
    have hd : dec (b0 :: r) = decodeN (r.length + 1) b0.toNat (bt (b0 :: r) 1) (bt (b0 :: r) 2) (bt (b0 :: r) 3) := by unfold dec; simp [bt]
    rw [hd]
    unfold decodeN
    split
    · rename_i h0
      refine told_ok (.inl (by omega)) ?_ (by omega) (by omega) (by simp)
      unfold enc; rw [if_pos h0]; simp
    · split
      · rename_i h1
        obtain ⟨e1, h3, e2⟩ := h1
        match r with
        | [] => simp at h3
        | b1 :: r =>
          have q1 : bt (b0 :: b1 :: r) 1 = b1.toNat := rfl
          rw [q1] at e2 ⊢
          split
          · rename_i h2
            obtain ⟨i, e⟩ := enc2 b0 b1 _ rfl e1 e2 h2
            exact told_ok i e (by omega) (by omega) (by simp)
          · exact told_bad _
      · split
        · rename_i h2
          obtain ⟨e1, ⟨h4, e2⟩, h5, e3⟩ := h2
          match r with
          | [] => simp at h4
          | [b1] => simp at h5
          | b1 :: b2 :: r =>
            have q1 : bt (b0 :: b1 :: b2 :: r) 1 = b1.toNat := rfl
            have q2 : bt (b0 :: b1 :: b2 :: r) 2 = b2.toNat := rfl
            rw [q1] at e2; rw [q2] at e3
            rw [q1, q2]
            split
            · rename_i h6
              exact told_ok h6.2 (enc3 b0 b1 b2 _ rfl e1 e2 e3 h6.1 h6.2) (by omega) (by omega) (by simp)
            · exact told_bad _
        · split
          · rename_i h3
            obtain ⟨e1, ⟨h5, e2⟩, ⟨h6, e3⟩, h7, e4⟩ := h3
            match r with
            | [] => simp at h5
            | [b1] => simp at h6
            | [b1, b2] => simp at h7
            | b1 :: b2 :: b3 :: r =>
              have q1 : bt (b0 :: b1 :: b2 :: b3 :: r) 1 = b1.toNat := rfl
              have q2 : bt (b0 :: b1 :: b2 :: b3 :: r) 2 = b2.toNat := rfl
              have q3 : bt (b0 :: b1 :: b2 :: b3 :: r) 3 = b3.toNat := rfl
              rw [q1] at e2; rw [q2] at e3; rw [q3] at e4
              rw [q1, q2, q3]
              split
              · rename_i h8
                exact told_ok h8.2 (enc4 b0 b1 b2 b3 _ rfl e1 e2 e3 e4 h8.1 h8.2) (by omega) (by omega) (by simp)
              · exact told_bad _
          · exact told_bad _
theorem dec_inv (l : List UInt8) (h : ¬ ((dec l).1 = 65533 ∧ (dec l).2 ≤ 1)) : isCh (dec l).1 ∧ enc (dec l).1 = l.take (dec l).2 ∧ 1 ≤ (dec l).2 ∧ (dec l).2 ≤ 4 ∧ (dec l).2 ≤ l.length := by
  by_cases hl : l = []
  · subst hl; exact absurd ⟨rfl, by decide⟩ h
  · rcases dec_told l hl with ⟨h1, h2⟩ | h1
    · exact absurd ⟨h1, by omega⟩ h
    · exact h1
theorem nxtC_cases (l : List UInt8) : (nxtC l = -1 ∧ (dec l).1 = 65533 ∧ (dec l).2 ≤ 1) ∨ (nxtC l = ((dec l).1 : Int) ∧ isCh (dec l).1 ∧ enc (dec l).1 = l.take (nxtK l) ∧ 1 ≤ nxtK l ∧ nxtK l ≤ 4 ∧ nxtK l ≤ l.length) := by
  by_cases h : (dec l).1 = 65533 ∧ (dec l).2 ≤ 1
  · exact .inl ⟨by unfold nxtC; rw [if_pos h], h⟩
  · exact .inr ⟨by unfold nxtC; rw [if_neg h], dec_inv l h⟩
theorem nxtK_pos (l : List UInt8) (h : l ≠ []) : 1 ≤ nxtK l ∧ nxtK l ≤ 4 ∧ nxtK l ≤ l.length := by
  rcases nxtC_cases l with ⟨_, h1, h2⟩ | ⟨_, _, _, h3⟩
  · have hl : 0 < l.length := List.length_pos_iff.2 h
    have : 1 ≤ (dec l).2 := by
      unfold dec; rw [if_neg (by omega)]
      unfold decodeN; repeat' split
      all_goals simp
    unfold nxtK; omega
  · exact h3
theorem nxtK_nil : nxtK [] = 0 ∧ nxtC [] = -1 := by decide
/-- -1 has one byte -/
theorem nxtK_bad (l : List UInt8) (h : l ≠ []) (hc : nxtC l = -1) : nxtK l = 1 := by
  rcases nxtC_cases l with ⟨_, h1, h2⟩ | ⟨h1, h2, _⟩
  · have := nxtK_pos l h
    unfold nxtK at *; omega
  · rw [hc] at h1; omega
theorem nxtC_ge (l : List UInt8) : -1 ≤ nxtC l ∧ nxtC l ≤ 1114111 := by
  rcases nxtC_cases l with ⟨h, _⟩ | ⟨h, hc, _⟩
  · omega
  · unfold isCh at hc; omega
/-- no other number of bytes is a character's -/
theorem only_one {l : List UInt8} {c n : Nat} (hc : isCh c) (h : enc c = l.take n) (hn : n ≤ l.length) : nxtC l = c ∧ nxtK l = n := by
  have hl : l = enc c ++ l.drop n := by rw [h, List.take_append_drop]
  have hlen : (enc c).length = n := by rw [h, List.length_take]; omega
  have := nxt_enc c hc (l.drop n)
  rw [← hl, hlen] at this
  exact this
end Go.Proofs.YtackinamkibmlaaDoor
