/- The contracts of Lay: octet's and the document's. -/
import Derived.Test.YtbaclfpkaobggaaKitB
import Derived.Test.YtbaclfpkaobggaaOctA
import Derived.Test.YtbaclfpkaobggaaOctB
namespace Go.Proofs.Ytbaclfpkaobggaa
open Go.RowKit
open Go.Lib (byteCells)
set_option linter.unusedVariables false
set_option linter.unusedSimpArgs false

/-- the byte that stands at 256^k -/
def dig (n : Int) (k : Nat) : UInt8 := UInt8.ofNat (n / 256 ^ k % 256).toNat
/-- the lowest k bytes, the highest first -/
def lay (n : Int) : Nat → List UInt8
  | 0 => []
  | k + 1 => dig n k :: lay n k
theorem lay_len (n : Int) (k : Nat) : (lay n k).length = k := by
  induction k with
  | zero => rfl
  | succ k ih => simp [lay, ih]
theorem dig_toNat (n : Int) (k : Nat) : ((dig n k).toNat : Int) = n / 256 ^ k % 256 := by
  have h0 : 0 ≤ n / 256 ^ k % 256 := Int.emod_nonneg _ (by decide)
  have h1 : n / 256 ^ k % 256 < 256 := Int.emod_lt_of_pos _ (by decide)
  simp [dig, UInt8.toNat_ofNat]
  omega
def layE (n wd : Int) : Int := if wide wd = false then 2 else if n < 0 ∨ n / 256 ^ wd.toNat ≠ 0 then 8 else 0
def layL (n wd : Int) : List UInt8 := if layE n wd = 0 then lay n wd.toNat else []

theorem pow_le6 {k : Nat} (h : k ≤ 6) : (256 : Int) ^ k ≤ 281474976710656 := by
  have : k = 0 ∨ k = 1 ∨ k = 2 ∨ k = 3 ∨ k = 4 ∨ k = 5 ∨ k = 6 := by omega
  rcases this with h | h | h | h | h | h | h <;> subst h <;> decide
theorem pow28 (k : Nat) : (2 : Int) ^ (8 * k) = 256 ^ k := by rw [Int.pow_mul]; rfl
theorem wrap_u8 (x : Int) : IntKind.u8.wrap x = x % 256 := by
  simp [IntKind.wrap, IntKind.signed, IntKind.bits]

theorem made_zeros (wd : Nat) (n : Int) : byteCells (List.replicate (wd - 0) 0 ++ lay n 0) = (madeCells (Value.int .u8 0).cells (wd * 1)).toList := by
  apply List.ext_getElem
  · simp [lay, byteCells, madeCells]
  · intro i h1 h2
    simp [lay, byteCells, madeCells, Value.cells, Nat.mod_one]
theorem zero_at {wd k : Nat} (h : k < wd) (l : List UInt8) : (byteCells (List.replicate (wd - k) 0 ++ l))[wd - 1 - k]? = some (.int .u8 0) := by
  unfold Lib.byteCells
  rw [List.getElem?_map, List.getElem?_append_left (by simp; omega), List.getElem?_replicate]
  simp; omega
theorem set_dig {wd k : Nat} {n : Int} (h : k < wd) : (byteCells (List.replicate (wd - k) 0 ++ lay n k)).set (wd - 1 - k) (.int .u8 (n / 2 ^ (8 * k) % 256)) = byteCells (List.replicate (wd - (k + 1)) 0 ++ lay n (k + 1)) := by
  have e : Value.int .u8 (n / 2 ^ (8 * k) % 256) = Value.int .u8 ((dig n k).toNat : Int) := by rw [dig_toNat, pow28]
  rw [e]
  have e2 : List.replicate (wd - k) (0 : UInt8) = List.replicate (wd - (k + 1)) 0 ++ [0] := by
    rw [show wd - k = (wd - (k + 1)) + 1 by omega, List.replicate_succ']
  rw [e2]
  unfold Lib.byteCells
  rw [← List.map_set (f := fun b : UInt8 => Value.int .u8 (b.toNat : Int)) (a := dig n k)]
  congr 1
  rw [List.append_assoc, List.set_append_right _ _ (by simp; omega)]
  simp only [List.length_replicate, show wd - 1 - k - (wd - (k + 1)) = 0 by omega]
  rfl

set_option maxHeartbeats 1000000 in
set_option maxRecDepth 1000000 in
theorem lay_any (n wd : Int) (w : World) (hn : -9223372036854775808 ≤ n) (hn' : n ≤ 9223372036854775807) :
    Calls Try.prog 29 #[.int .i64 n, .int .i64 wd] w (RetB w (layL n wd) (layE n wd)) := by
  by_cases hw : wide wd = true
  · obtain ⟨h1, h6⟩ := wide_bd hw
    obtain ⟨wd, rfl⟩ : ∃ x : Nat, wd = x := ⟨wd.toNat, by omega⟩
    have hw1 : (!wide wd) = false := by simp [hw]
    by_cases hneg : n < 0
    · have E : layE n wd = 8 := by simp [layE, hw, hneg]
      have L : layL n wd = [] := by simp [layL, E]
      rw [E, L]; clear E L hw
      go_enter Try.func29, Try.ntmps29
      go_wp2_with (go_at_call 33; refine (isWidth_any _ _).mono ?_; rintro e w' ⟨rfl, rfl⟩)
      go_ret2
      exact RetB.mk (IsB.nil _ _) (Below.refl _ _)
    · by_cases hq : n / 256 ^ wd = 0
      · have E : layE n wd = 0 := by simp [layE, hw, hneg, hq]
        have L : layL n wd = lay n wd := by simp [layL, E]
        rw [E, L]; clear E L hw
        have hq1 : (n / 2 ^ (8 * wd) != 0) = false := by simp [pow28, hq]
        clear hq
        obtain ⟨i0, hi, hz0, hz1, hz2⟩ := info_parts info_u8
        go_enter Try.func29, Try.ntmps29
        go_wp2_with (first | (go_at_call 33; refine (isWidth_any _ _).mono ?_; rintro e w' ⟨rfl, rfl⟩) | (at_make; (refine wpList_make_full _ rfl _ _ 45 rfl w.heap.size 5 i0 (.int .u8 0) 1 Try.underlying45 hi hz0 hz1 _ _ _ _ wd rfl rfl rfl rfl (by rw [hz2]; omega) (by unfold maxLen; omega) (Nat.le_refl _) ?_; intro w1 hown hgr)))
        have hB1 : Below w.heap.size w w1 := (Below.refl _ _).grown hgr (Nat.le_refl _) (fun k hk => by cases hk)
        have hown' : w1.ownsRow w.heap.size 5 1 (.slice (some ⟨w.heap.size, 0, none⟩) wd wd) wd (byteCells (List.replicate (wd - 0) 0 ++ lay n 0)) := by
          rw [show byteCells (List.replicate (wd - 0) 0 ++ lay n 0) = (madeCells (Value.int .u8 0).cells (wd * 1)).toList from made_zeros wd n]; exact hown
        clear hown hgr
        go_loopw [23] (fun i wr => ∃ k : Nat, k ≤ wd ∧ i = .int .i64 k ∧ wr.ownsRow w.heap.size 5 1 (.slice (some ⟨w.heap.size, 0, none⟩) wd wd) wd (byteCells (List.replicate (wd - k) 0 ++ lay n k)) ∧ Below w.heap.size w wr) (fun i _ => wd - (intOf i).toNat)
        case atStart => exact ⟨0, by omega, rfl, hown', hB1⟩
        case round =>
          obtain ⟨k, hk, rfl, ho, hB⟩ := hrel
          by_cases hlt : k < wd
          · have hlt' : (k : Int) < wd := by omega
            have hcell : wr.cell? ⟨w.heap.size, wd - 1 - k, none⟩ = some (.int .u8 0) := by
              rw [ho.cellAt (wd - 1 - k) (by omega)]; exact zero_at hlt _
            have hfr := ho.frozenAt (wd - 1 - k)
            have hst := ho.stored (wd - 1 - k) (.int .u8 (n / 2 ^ (8 * k) % 256))
            rw [set_dig hlt] at hst
            obtain ⟨ho2, hg2⟩ := hst
            have HS := Lib.hid ho2
            have HG := Lib.hid (hB.grown hg2 hB.size (fun k hk => by cases hk; exact Nat.le_refl _))
            have hko : 0 ≤ (wd : Int) - 1 - k := by omega
            have hko2 : (wd : Int) - 1 - k < wd := by omega
            clear ho ho2 hg2 hB1 hB hown'
            go_wp2
            go_roundw
            case rel => exact ⟨k + 1, by omega, by go_num, HS.out, HG.out⟩
            case measure => simp [intOf]; omega
          · obtain rfl : k = wd := by omega
            clear hown'
            go_wp2
            go_ret2
            exact RetB.mk (by have h := ho; rw [Nat.sub_self, List.replicate_zero, List.nil_append] at h; unfold IsB; rw [lay_len]; exact h) hB
      · have E : layE n wd = 8 := by simp [layE, hw, hneg, hq]
        have L : layL n wd = [] := by simp [layL, E]
        rw [E, L]; clear E L hw
        have hq1 : (n / 2 ^ (8 * wd) != 0) = true := by simp [pow28, hq]
        clear hq
        go_enter Try.func29, Try.ntmps29
        go_wp2_with (go_at_call 33; refine (isWidth_any _ _).mono ?_; rintro e w' ⟨rfl, rfl⟩)
        go_ret2
        exact RetB.mk (IsB.nil _ _) (Below.refl _ _)
  · have hw' : wide wd = false := by simpa using hw
    have E : layE n wd = 2 := by simp [layE, hw']
    have L : layL n wd = [] := by simp [layL, E]
    rw [E, L]
    have hw1 : (!wide wd) = true := by simp [hw']
    clear hw hw' E L
    go_enter Try.func29, Try.ntmps29
    go_wp2_with (go_at_call 33; refine (isWidth_any _ _).mono ?_; rintro e w' ⟨rfl, rfl⟩)
    go_ret2
    exact RetB.mk (IsB.nil _ _) (Below.refl _ _)

theorem lay_cons (n : Int) (k : Nat) : byteCells (lay n (k + 1)) = [Value.int .u8 (n / 256 ^ k % 256)] ++ byteCells (lay n k) := by
  simp [lay, byteCells, dig_toNat]
theorem div_step (n : Int) (k : Nat) : n / 256 ^ k / 256 = n / 256 ^ (k + 1) := by
  rw [Int.pow_succ, Int.ediv_ediv_of_nonneg (Int.le_of_lt (Int.pow_pos (by decide)))]

end Go.Proofs.Ytbaclfpkaobggaa
