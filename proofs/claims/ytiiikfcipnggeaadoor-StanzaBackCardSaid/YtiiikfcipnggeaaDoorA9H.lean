/- Layer 9, the program's: what may be a name, and a host. -/
import Derived.Test.YtiiikfcipnggeaaDoorA9G
namespace Go.Proofs.YtiiikfcipnggeaaDoor
open Go.RowKit
set_option linter.unusedVariables false
set_option linter.unusedSimpArgs false

def leB (b : UInt8) : Bool := decide (97 ≤ b.toNat ∧ b.toNat ≤ 122)
def diB (b : UInt8) : Bool := decide (48 ≤ b.toNat ∧ b.toNat ≤ 57)
def mkB (b : UInt8) : Bool := decide (b.toNat = 46 ∨ b.toNat = 45)
theorem aletter_any (x : UInt8) (w : World) : Calls Tryd.prog 72 #[.int .u8 (x.toNat : Int)] w fun e w' => e = .returned (.bool (leB x)) ∧ w' = w := by
  have hbd := UInt8.toNat_lt x
  have key : Hid (leB x = decide ((97 : Int) ≤ x.toNat ∧ (x.toNat : Int) ≤ 122)) := Lib.hid (by
    unfold leB; rw [Bool.eq_iff_iff, decide_eq_true_iff, decide_eq_true_iff]; omega)
  generalize leB x = r at key ⊢
  generalize (x.toNat : Int) = y at key hbd ⊢
  clear hbd
  by_cases h1 : (97 : Int) ≤ y
  · by_cases h2 : y ≤ 122
    · have HR := Lib.hid (key.out.trans (decide_eq_true ⟨h1, h2⟩))
      clear key
      go_enter Tryd.func72, Tryd.ntmps72
      go_wp2
      go_ret
      exact ⟨ret_bool HR.out.symm, rfl⟩
    · have HR := Lib.hid (key.out.trans (decide_eq_false (by omega)))
      clear key
      go_enter Tryd.func72, Tryd.ntmps72
      go_wp2
      go_ret
      exact ⟨ret_bool (by first | exact HR.out.symm | (rw [HR.out]; simp; omega)), rfl⟩
  · have HR := Lib.hid (key.out.trans (decide_eq_false (by omega)))
    clear key
    go_enter Tryd.func72, Tryd.ntmps72
    go_wp2
    go_ret
    exact ⟨ret_bool (by first | exact HR.out.symm | (rw [HR.out]; simp; omega)), rfl⟩
theorem adigit_any (x : UInt8) (w : World) : Calls Tryd.prog 73 #[.int .u8 (x.toNat : Int)] w fun e w' => e = .returned (.bool (diB x)) ∧ w' = w := by
  have hbd := UInt8.toNat_lt x
  have key : Hid (diB x = decide ((48 : Int) ≤ x.toNat ∧ (x.toNat : Int) ≤ 57)) := Lib.hid (by
    unfold diB; rw [Bool.eq_iff_iff, decide_eq_true_iff, decide_eq_true_iff]; omega)
  generalize diB x = r at key ⊢
  generalize (x.toNat : Int) = y at key hbd ⊢
  clear hbd
  by_cases h1 : (48 : Int) ≤ y
  · by_cases h2 : y ≤ 57
    · have HR := Lib.hid (key.out.trans (decide_eq_true ⟨h1, h2⟩))
      clear key
      go_enter Tryd.func73, Tryd.ntmps73
      go_wp2
      go_ret
      exact ⟨ret_bool HR.out.symm, rfl⟩
    · have HR := Lib.hid (key.out.trans (decide_eq_false (by omega)))
      clear key
      go_enter Tryd.func73, Tryd.ntmps73
      go_wp2
      go_ret
      exact ⟨ret_bool (by first | exact HR.out.symm | (rw [HR.out]; simp; omega)), rfl⟩
  · have HR := Lib.hid (key.out.trans (decide_eq_false (by omega)))
    clear key
    go_enter Tryd.func73, Tryd.ntmps73
    go_wp2
    go_ret
    exact ⟨ret_bool (by first | exact HR.out.symm | (rw [HR.out]; simp; omega)), rfl⟩
theorem amark_any (x : UInt8) (w : World) : Calls Tryd.prog 74 #[.int .u8 (x.toNat : Int)] w fun e w' => e = .returned (.bool (mkB x)) ∧ w' = w := by
  have hbd := UInt8.toNat_lt x
  by_cases h1 : x.toNat = 46
  · have HR : Hid (mkB x = true) := Lib.hid (decide_eq_true (.inl h1))
    have e1 : ((x.toNat : Int) == 46) = true := by simp [h1]
    clear h1
    go_enter Tryd.func74, Tryd.ntmps74
    go_wp2
    go_ret
    exact ⟨ret_bool HR.out.symm, rfl⟩
  have e1 : ((x.toNat : Int) == 46) = false := by simp; omega
  by_cases h2 : x.toNat = 45
  · have HR : Hid (mkB x = true) := Lib.hid (decide_eq_true (.inr h2))
    have e2 : ((x.toNat : Int) == 45) = true := by simp [h2]
    clear h1 h2
    go_enter Tryd.func74, Tryd.ntmps74
    go_wp2
    go_ret
    exact ⟨ret_bool HR.out.symm, rfl⟩
  have e2 : ((x.toNat : Int) == 45) = false := by simp; omega
  have HR : Hid (mkB x = false) := Lib.hid (decide_eq_false (by omega))
  clear h1 h2
  go_enter Tryd.func74, Tryd.ntmps74
  go_wp2
  go_ret
  exact ⟨ret_bool HR.out.symm, rfl⟩

set_option maxRecDepth 100000 in
set_option maxHeartbeats 2000000 in
theorem aname_any (s : ByteArray) (w : World) (hT : Tabs9 w) (hs : s.size ≤ 1000000) :
    Calls Tryd.prog 68 #[.string s] w fun e w' => e = .returned (.bool (nameB s.data.toList)) ∧ Below w.heap.size w w' := by
  have cp := Lib.hid (plain_any s w hT.t (by omega))
  clear hT
  go_enter Tryd.func68, Tryd.ntmps68
  go_wp2
  go_loop [7] (fun i => ∃ k : Nat, i = .int .i64 k ∧ k ≤ s.size ∧ (∀ j (hj : j < s.size), j < k → nmOk (s[j]'hj) = true)) (fun i => s.size - (intOf i).toNat)
  case atStart => exact ⟨0, rfl, by omega, fun j hj h => by omega⟩
  case round =>
    obtain ⟨k, rfl, hk, hok⟩ := hrel
    have HO := Lib.hid hok
    clear hok
    by_cases hlt : k < s.size
    · have hlt' : (k : Int) < s.size := by omega
      obtain ⟨x, hx⟩ : ∃ x, s[k]'hlt = x := ⟨_, rfl⟩
      have HX := Lib.hid hx
      have HM := Lib.hid (show x ∈ s.data.toList from by rw [← hx, ← at_list s k hlt]; exact List.getElem_mem _)
      by_cases hb : nmOk x = true
      · have H1 := Lib.hid hb
        unfold nmOk at hb
        rw [decide_eq_true_iff] at hb
        obtain ⟨n1, n2, n3, n4⟩ := hb
        have e1 : ((x.toNat : Int) == 32) = false := by simp; omega
        have e2 : ((x.toNat : Int) == 64) = false := by simp; omega
        have e3 : ((x.toNat : Int) == 47) = false := by simp; omega
        by_cases h65 : (65 : Int) ≤ x.toNat
        · have h90 : ¬ ((x.toNat : Int) ≤ 90) := by omega
          clear n1 n2 n3 n4
          go_wp2
          go_round
          case rel => exact ⟨k + 1, by go_num, by omega, fun j hj h => by
            by_cases e : j = k
            · subst e; rw [HX.out]; exact H1.out
            · exact HO.out j hj (by omega)⟩
          case measure => simp [intOf]; omega
        · clear n1 n2 n3 n4
          go_wp2
          go_round
          case rel => exact ⟨k + 1, by go_num, by omega, fun j hj h => by
            by_cases e : j = k
            · subst e; rw [HX.out]; exact H1.out
            · exact HO.out j hj (by omega)⟩
          case measure => simp [intOf]; omega
      · have HN := Lib.hid (nameB_no HM.out (by simpa using hb))
        unfold nmOk at hb
        rw [decide_eq_true_iff] at hb
        by_cases n1 : x.toNat = 32
        · have e1 : ((x.toNat : Int) == 32) = true := by simp; omega
          clear n1 hb
          go_wp2
          go_ret
          exact ⟨ret_bool HN.out.symm, Below.refl _ _⟩
        have e1 : ((x.toNat : Int) == 32) = false := by simp; omega
        by_cases n2 : x.toNat = 64
        · have e2 : ((x.toNat : Int) == 64) = true := by simp; omega
          clear n1 n2 hb
          go_wp2
          go_ret
          exact ⟨ret_bool HN.out.symm, Below.refl _ _⟩
        have e2 : ((x.toNat : Int) == 64) = false := by simp; omega
        by_cases n3 : x.toNat = 47
        · have e3 : ((x.toNat : Int) == 47) = true := by simp; omega
          clear n1 n2 n3 hb
          go_wp2
          go_ret
          exact ⟨ret_bool HN.out.symm, Below.refl _ _⟩
        have e3 : ((x.toNat : Int) == 47) = false := by simp; omega
        have h65 : (65 : Int) ≤ x.toNat := by omega
        have h90 : (x.toNat : Int) ≤ 90 := by omega
        clear n1 n2 n3 hb
        go_wp2
        go_ret
        exact ⟨ret_bool HN.out.symm, Below.refl _ _⟩
    · obtain rfl : k = s.size := by omega
      have HN := Lib.hid (nameB_all (l := s.data.toList) (fun b hb => by
        obtain ⟨j, hj, rfl⟩ := List.mem_iff_getElem.1 hb
        have hj' : j < s.size := by rw [sz_list]; exact hj
        rw [at_list s j hj']
        exact HO.out j hj' hj'))
      go_wp2_with fail
      refine cp.out.mono ?_; rintro e w1 ⟨rfl, hb1⟩
      go_wp2
      go_ret
      exact ⟨ret_bool HN.out.symm, hb1⟩
end Go.Proofs.YtiiikfcipnggeaaDoor
