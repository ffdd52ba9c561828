/- Layer 9, the document's: which of two comes first; it is an order. -/
import Derived.Test.YtackinamkibmlaaDoorA9C
namespace Go.Proofs.YtackinamkibmlaaDoor
open Go.RowKit
set_option linter.unusedVariables false
set_option linter.unusedSimpArgs false

theorem u8_lt (a b : UInt8) : (a < b) = (a.toNat < b.toNat) := by rw [UInt8.lt_iff_toNat_lt]
theorem u8_inj {a b : UInt8} (h : a.toNat = b.toNat) : a = b := UInt8.toNat_inj.1 h
theorem bl_cons (a b : UInt8) (x y : List UInt8) : Op.bytesLess (a :: x) (b :: y) = (decide (a.toNat < b.toNat) || (decide (a.toNat = b.toNat) && Op.bytesLess x y)) := by
  have e : (a == b) = decide (a.toNat = b.toNat) := by
    rw [Bool.eq_iff_iff, beq_iff_eq, decide_eq_true_iff]
    exact ⟨fun h => by rw [h], u8_inj⟩
  show (decide (a < b) || ((a == b) && Op.bytesLess x y)) = _
  rw [e]
  rfl
theorem bl_irrefl (x : List UInt8) : Op.bytesLess x x = false := by
  induction x with
  | nil => rfl
  | cons a x ih => rw [bl_cons, ih]; simp
theorem bl_trans : ∀ {x y z : List UInt8}, Op.bytesLess x y = true → Op.bytesLess y z = true → Op.bytesLess x z = true
  | [], [], _, h, _ => by cases h
  | [], _ :: _, [], _, h => by cases h
  | [], _ :: _, _ :: _, _, _ => rfl
  | _ :: _, [], _, h, _ => by cases h
  | _ :: _, _ :: _, [], _, h => by cases h
  | a :: x, b :: y, c :: z, h1, h2 => by
    rw [bl_cons] at h1 h2 ⊢
    simp only [Bool.or_eq_true, Bool.and_eq_true, decide_eq_true_eq] at h1 h2 ⊢
    rcases h1 with h1 | ⟨h1, k1⟩ <;> rcases h2 with h2 | ⟨h2, k2⟩
    · exact .inl (by omega)
    · exact .inl (by omega)
    · exact .inl (by omega)
    · exact .inr ⟨by omega, bl_trans k1 k2⟩
theorem bl_tri : ∀ {x y : List UInt8}, x ≠ y → Op.bytesLess x y = true ∨ Op.bytesLess y x = true
  | [], [], h => absurd rfl h
  | [], _ :: _, _ => .inl rfl
  | _ :: _, [], _ => .inr rfl
  | a :: x, b :: y, h => by
    rw [bl_cons, bl_cons]
    simp only [Bool.or_eq_true, Bool.and_eq_true, decide_eq_true_eq]
    by_cases e : a.toNat = b.toNat
    · have hxy : x ≠ y := fun exy => h (by rw [exy, u8_inj e])
      rcases bl_tri hxy with k | k
      · exact .inl (.inr ⟨e, k⟩)
      · exact .inr (.inr ⟨e.symm, k⟩)
    · omega
/-- which of two texts comes first -/
def ltS (a b : ByteArray) : Bool := Op.bytesLess a.toList b.toList
theorem ltS_irrefl (a : ByteArray) : ltS a a = false := bl_irrefl _
theorem ltS_trans {a b c : ByteArray} (h : ltS a b = true) (k : ltS b c = true) : ltS a c = true := bl_trans h k
theorem list_inj {a b : ByteArray} (h : a.toList = b.toList) : a = b := by
  have := str_beq a b
  rw [h, beq_self_eq_true] at this
  exact of_decide_eq_true this.symm
theorem ltS_tri {a b : ByteArray} (h : a ≠ b) : ltS a b = true ∨ ltS b a = true := bl_tri (fun e => h (list_inj e))
theorem ltS_asymm {a b : ByteArray} (h : ltS a b = true) : ltS b a = false := by
  cases k : ltS b a with
  | false => rfl
  | true => exact absurd (ltS_trans h k) (by rw [ltS_irrefl]; decide)
/-- an address: its name, host and resource -/
abbrev Ad := ByteArray × ByteArray × ByteArray
/-- which of two addresses comes first: by names, then hosts, then resources -/
def lessA (a b : Ad) : Bool := if a.1 = b.1 then (if a.2.1 = b.2.1 then ltS a.2.2 b.2.2 else ltS a.2.1 b.2.1) else ltS a.1 b.1
theorem lessA_irrefl (a : Ad) : lessA a a = false := by unfold lessA; rw [if_pos rfl, if_pos rfl, ltS_irrefl]
theorem lessA_iff (a b : Ad) : lessA a b = true ↔ ltS a.1 b.1 = true ∨ (a.1 = b.1 ∧ (ltS a.2.1 b.2.1 = true ∨ (a.2.1 = b.2.1 ∧ ltS a.2.2 b.2.2 = true))) := by
  unfold lessA
  by_cases h1 : a.1 = b.1
  · rw [if_pos h1]
    by_cases h2 : a.2.1 = b.2.1
    · rw [if_pos h2, h1, h2]
      simp [ltS_irrefl]
    · rw [if_neg h2, h1]
      simp [ltS_irrefl, h2]
  · rw [if_neg h1]
    simp [h1]
theorem lessA_trans {a b c : Ad} (h : lessA a b = true) (k : lessA b c = true) : lessA a c = true := by
  rw [lessA_iff] at h k ⊢
  rcases h with h | ⟨h, h'⟩
  · rcases k with k | ⟨k, _⟩
    · exact .inl (ltS_trans h k)
    · exact .inl (k ▸ h)
  · rcases k with k | ⟨k, k'⟩
    · exact .inl (h ▸ k)
    · refine .inr ⟨h.trans k, ?_⟩
      rcases h' with h' | ⟨h', h''⟩
      · rcases k' with k' | ⟨k', _⟩
        · exact .inl (ltS_trans h' k')
        · exact .inl (k' ▸ h')
      · rcases k' with k' | ⟨k', k''⟩
        · exact .inl (h' ▸ k')
        · exact .inr ⟨h'.trans k', ltS_trans h'' k''⟩
theorem lessA_tri {a b : Ad} (h : a ≠ b) : lessA a b = true ∨ lessA b a = true := by
  rw [lessA_iff, lessA_iff]
  by_cases h1 : a.1 = b.1
  · by_cases h2 : a.2.1 = b.2.1
    · have h3 : a.2.2 ≠ b.2.2 := fun e => h (Prod.ext h1 (Prod.ext h2 e))
      rcases ltS_tri h3 with k | k
      · exact .inl (.inr ⟨h1, .inr ⟨h2, k⟩⟩)
      · exact .inr (.inr ⟨h1.symm, .inr ⟨h2.symm, k⟩⟩)
    · rcases ltS_tri h2 with k | k
      · exact .inl (.inr ⟨h1, .inl k⟩)
      · exact .inr (.inr ⟨h1.symm, .inl k⟩)
  · rcases ltS_tri h1 with k | k
    · exact .inl (.inl k)
    · exact .inr (.inl k)
theorem lessA_asymm {a b : Ad} (h : lessA a b = true) : lessA b a = false := by
  cases k : lessA b a with
  | false => rfl
  | true => exact absurd (lessA_trans h k) (by rw [lessA_irrefl]; decide)

end Go.Proofs.YtackinamkibmlaaDoor
