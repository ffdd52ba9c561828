/- Layer 9, the document's: what may be a host. -/
import Derived.Test.YtngaklciclbofaaDoorA9A
namespace Go.Proofs.YtngaklciclbofaaDoor
open Go.RowKit
set_option linter.unusedVariables false
set_option linter.unusedSimpArgs false

/-- may a byte not stand at the k-th place of n, behind another one? -/
def hsBad (n k : Nat) (x p : UInt8) : Bool := (!ltB x && (decide (k = 0 ∨ k + 1 = n) || (decide (x.toNat ≠ 45) && decide (x.toNat ≠ 46)))) || (decide (0 < k) && (decide (x.toNat = 46) && decide (p.toNat = 46)))
def hostB (l : List UInt8) : Bool := (List.range l.length).all fun k => !hsBad l.length k (l.getD k 0) (l.getD (k - 1) 0)
theorem getD_list (s : ByteArray) (k : Nat) (h : k < s.size) : s.data.toList.getD k 0 = s[k]'h := by
  rw [← at_list s k h]
  simp [List.getD, List.getElem?_eq_getElem (show k < s.data.toList.length by rw [← sz_list]; exact h)]
theorem hostB_no {s : ByteArray} {k : Nat} (hk : k < s.size) (h : hsBad s.size k (s[k]'hk) (s[k - 1]'(by omega)) = true) : hostB s.data.toList = false := by
  unfold hostB
  rw [List.all_eq_false]
  refine ⟨k, List.mem_range.2 (by rw [← sz_list]; exact hk), ?_⟩
  rw [← sz_list, getD_list s k hk, getD_list s (k - 1) (by omega), h]
  decide
theorem hostB_all {s : ByteArray} (h : ∀ k (hk : k < s.size), hsBad s.size k (s[k]'hk) (s[k - 1]'(by omega)) = false) : hostB s.data.toList = true := by
  unfold hostB
  rw [List.all_eq_true]
  intro k hk
  have hk' : k < s.size := by rw [sz_list]; exact List.mem_range.1 hk
  rw [← sz_list, getD_list s k hk', getD_list s (k - 1) (by omega), h k hk']
  decide
theorem ltB_no46 {x : UInt8} (h : ltB x = true) : x.toNat ≠ 46 ∧ x.toNat ≠ 45 := by
  unfold ltB at h
  rw [decide_eq_true_iff] at h
  omega
set_option maxRecDepth 100000 in
set_option maxHeartbeats 2000000 in
theorem dhost_any (s : ByteArray) (w : World) (hs : s.size ≤ 1099511627776) :
    Calls Tryd.prog 37 #[.string s] w fun e w' => e = .returned (.bool (hostB s.data.toList)) ∧ Below w.heap.size w w' := by
  go_enter Tryd.func37, Tryd.ntmps37
  go_wp2
  go_loop [3] (fun i => ∃ k : Nat, i = .int .i64 k ∧ k ≤ s.size ∧ (∀ j (hj : j < s.size), j < k → hsBad s.size j (s[j]'hj) (s[j - 1]'(by omega)) = false)) (fun i => s.size - (intOf i).toNat)
  case atStart => exact ⟨0, rfl, by omega, fun j hj h => by omega⟩
  case round =>
    obtain ⟨k, rfl, hk, hok⟩ := hrel
    have HO := Lib.hid hok
    clear hok
    by_cases hlt : k < s.size
    · have hlt' : (k : Int) < s.size := by omega
      have hlt2 : k - 1 < s.size := by omega
      obtain ⟨x, hx⟩ : ∃ x, s[k]'hlt = x := ⟨_, rfl⟩
      obtain ⟨p, hp⟩ : ∃ p, s[k - 1]'hlt2 = p := ⟨_, rfl⟩
      have HX := Lib.hid hx
      have HP := Lib.hid hp
      have cl := fun W => dletter_any x W
      have hw1 : IntKind.i64.wrap ((k : Int) + 1) = k + 1 := IntWalk.i64_in _ (by omega)
      have HGO := Lib.hid (show hsBad s.size k x p = false → ∀ j (hj : j < s.size), j < k + 1 → hsBad s.size j (s[j]'hj) (s[j - 1]'(by omega)) = false from fun hg j hj h => by
        by_cases e : j = k
        · subst e; rw [hx, hp]; exact hg
        · exact HO.out j hj (by omega))
      have HNO := Lib.hid (show hsBad s.size k x p = true → hostB s.data.toList = false from fun hb => hostB_no hlt (by rw [hx, hp]; exact hb))
      cases hl : ltB x with
      | true =>
        have h46 := (ltB_no46 hl).1
        have HG := Lib.hid (HGO.out (by unfold hsBad; simp [hl, h46]))
        have e46 : ((x.toNat : Int) == 46) = false := by simp; omega
        rw [hl] at cl
        clear hl h46 hp
        by_cases hk0 : k = 0
        · subst hk0
          go_wp2_with fail
          refine (cl _).mono ?_; rintro e w1 ⟨rfl, rfl⟩
          go_wp2
          go_round
          case rel => exact ⟨0 + 1, by go_num, by omega, HG.out⟩
          case measure => simp [intOf]; omega
        · have e0 : ((k : Int) == 0) = false := by simp; omega
          have g0 : (0 : Int) < k := by omega
          clear hk0
          go_wp2_with fail
          refine (cl _).mono ?_; rintro e w1 ⟨rfl, rfl⟩
          go_wp2
          go_round
          case rel => exact ⟨k + 1, by go_num, by omega, HG.out⟩
          case measure => simp [intOf]; omega
      | false =>
        rw [hl] at cl
        by_cases hk0 : k = 0
        · have HN := Lib.hid (HNO.out (by unfold hsBad; simp [hl, hk0]))
          subst hk0
          clear hl hp
          go_wp2_with fail
          refine (cl _).mono ?_; rintro e w1 ⟨rfl, rfl⟩
          go_wp2
          go_ret
          exact ⟨ret_bool HN.out.symm, Below.refl _ _⟩
        have e0 : ((k : Int) == 0) = false := by simp; omega
        by_cases hkn : k + 1 = s.size
        · have HN := Lib.hid (HNO.out (by unfold hsBad; simp [hl, hkn]))
          have e1 : ((k : Int) + 1 == (s.size : Int)) = true := by simp; omega
          clear hl hp hk0 hkn
          go_wp2_with fail
          refine (cl _).mono ?_; rintro e w1 ⟨rfl, rfl⟩
          go_wp2
          go_ret
          exact ⟨ret_bool HN.out.symm, Below.refl _ _⟩
        have e1 : ((k : Int) + 1 == (s.size : Int)) = false := by simp; omega
        by_cases h45 : x.toNat = 45
        · have HG := Lib.hid (HGO.out (by unfold hsBad; simp [hk0, hkn, h45]))
          have e45 : ((x.toNat : Int) != 45) = false := by simp [h45]
          have e46 : ((x.toNat : Int) == 46) = false := by simp [h45]
          have g0 : (0 : Int) < k := by omega
          clear hl hk0 hkn h45 hp
          go_wp2_with fail
          refine (cl _).mono ?_; rintro e w1 ⟨rfl, rfl⟩
          go_wp2
          go_round
          case rel => exact ⟨k + 1, by go_num, by omega, HG.out⟩
          case measure => simp [intOf]; omega
        have e45 : ((x.toNat : Int) != 45) = true := by simp; omega
        by_cases h46 : x.toNat = 46
        · have e46 : ((x.toNat : Int) != 46) = false := by simp [h46]
          have e46' : ((x.toNat : Int) == 46) = true := by simp [h46]
          have g0 : (0 : Int) < k := by omega
          have hwp : IntKind.i64.wrap ((k : Int) - 1) = ((k - 1 : Nat) : Int) := by rw [IntWalk.i64_in _ (by omega)]; omega
          have hlt3 : ((k - 1 : Nat) : Int) < s.size := by omega
          by_cases hp46 : p.toNat = 46
          · have HN := Lib.hid (HNO.out (by unfold hsBad; simp [h46, hp46]; omega))
            have ep : ((p.toNat : Int) == 46) = true := by simp [hp46]
            clear hl hk0 hkn h45 h46 hp46
            go_wp2_with fail
            refine (cl _).mono ?_; rintro e w1 ⟨rfl, rfl⟩
            go_wp2
            go_ret
            exact ⟨ret_bool HN.out.symm, Below.refl _ _⟩
          · have HG := Lib.hid (HGO.out (by unfold hsBad; simp [hk0, hkn, h46, hp46]))
            have ep : ((p.toNat : Int) == 46) = false := by simp; omega
            clear hl hk0 hkn h45 h46 hp46
            go_wp2_with fail
            refine (cl _).mono ?_; rintro e w1 ⟨rfl, rfl⟩
            go_wp2
            go_round
            case rel => exact ⟨k + 1, by go_num, by omega, HG.out⟩
            case measure => simp [intOf]; omega
        · have HN := Lib.hid (HNO.out (by unfold hsBad; simp [hl, h45, h46]))
          have e46 : ((x.toNat : Int) != 46) = true := by simp; omega
          clear hl hk0 hkn h45 h46 hp
          go_wp2_with fail
          refine (cl _).mono ?_; rintro e w1 ⟨rfl, rfl⟩
          go_wp2
          go_ret
          exact ⟨ret_bool HN.out.symm, Below.refl _ _⟩
    · obtain rfl : k = s.size := by omega
      have HN := Lib.hid (hostB_all (fun j hj => HO.out j hj hj))
      go_wp2
      go_ret
      exact ⟨ret_bool HN.out.symm, Below.refl _ _⟩
end Go.Proofs.YtngaklciclbofaaDoor
