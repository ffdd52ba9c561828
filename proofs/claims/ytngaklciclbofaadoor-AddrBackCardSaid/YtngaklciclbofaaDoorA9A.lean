/- Layer 9, the document's: where a byte first stands; what may be a name, and a host. -/
import Derived.Test.YtngaklciclbofaaDoorUI
namespace Go.Proofs.YtngaklciclbofaaDoor
open Go.RowKit
set_option linter.unusedVariables false
set_option linter.unusedSimpArgs false

/-- where a byte first stands; the length, if it does not -/
def findL (c : Nat) (l : List UInt8) : Nat := l.findIdx fun b => b.toNat == c
theorem findL_le (c : Nat) (l : List UInt8) : findL c l ≤ l.length := List.findIdx_le_length
theorem findL_at {c : Nat} {s : ByteArray} {k : Nat} (hk : k < s.size) (h : (s[k]'hk).toNat = c) (hno : ∀ j (hj : j < s.size), j < k → (s[j]'hj).toNat ≠ c) : findL c s.data.toList = k := by
  have hl : s.size = s.data.toList.length := sz_list s
  unfold findL
  rw [List.findIdx_eq (by omega)]
  refine ⟨by rw [at_list s k hk]; simpa using h, fun j hj => ?_⟩
  have hj' : j < s.size := by omega
  rw [at_list s j hj']
  simpa using hno j hj' hj
theorem findL_none {c : Nat} {s : ByteArray} (hno : ∀ j (hj : j < s.size), (s[j]'hj).toNat ≠ c) : findL c s.data.toList = s.size := by
  have hl : s.size = s.data.toList.length := sz_list s
  unfold findL
  rw [hl, List.findIdx_eq_length]
  intro x hx
  obtain ⟨j, hj, rfl⟩ := List.mem_iff_getElem.1 hx
  have hj' : j < s.size := by omega
  rw [at_list s j hj']
  simpa using hno j hj'
/-- what a text is cut at: no such byte ahead of it; there it is, if it is not the end -/
theorem findL_not {c : Nat} {l : List UInt8} {j : Nat} (h : j < findL c l) (hj : j < l.length) : l[j].toNat ≠ c := by
  have := List.not_of_lt_findIdx (p := fun b : UInt8 => b.toNat == c) (xs := l) h
  simpa using this
theorem findL_is {c : Nat} {l : List UInt8} (h : findL c l < l.length) : (l[findL c l]'h).toNat = c := by
  have := List.findIdx_getElem (p := fun b : UInt8 => b.toNat == c) (xs := l) (w := h)
  exact eq_of_beq this

set_option maxHeartbeats 1000000 in
theorem dfind_any (s : ByteArray) (c : Nat) (w : World) (hc : c < 256) (hs : s.size ≤ 1099511627776) :
    Calls Tryd.prog 28 #[.string s, .int .u8 (c : Int)] w fun e w' => e = .returned (.int .i64 (findL c s.data.toList)) ∧ w' = w := by
  go_enter Tryd.func28, Tryd.ntmps28
  go_wp2
  go_loop [5] (fun i => ∃ k : Nat, i = .int .i64 k ∧ k ≤ s.size ∧ (∀ j (hj : j < s.size), j < k → (s[j]'hj).toNat ≠ c)) (fun i => s.size - (intOf i).toNat)
  case atStart => exact ⟨0, rfl, by omega, fun j hj h => by omega⟩
  case round =>
    obtain ⟨k, rfl, hk, hok⟩ := hrel
    have HO := Lib.hid hok
    clear hok
    by_cases hlt : k < s.size
    · have hlt' : (k : Int) < s.size := by omega
      obtain ⟨x, hx⟩ : ∃ x, s[k]'hlt = x := ⟨_, rfl⟩
      have HX := Lib.hid hx
      by_cases h1 : x.toNat = c
      · have h1' : ((x.toNat : Int) == (c : Int)) = true := by simp [h1]
        have HF := Lib.hid (findL_at hlt (by rw [hx]; exact h1) HO.out)
        clear h1
        go_wp2
        go_ret
        exact ⟨ret_int (by rw [HF.out]), rfl⟩
      · have h1' : ((x.toNat : Int) == (c : Int)) = false := by simp; omega
        have H1 := Lib.hid h1
        clear h1
        go_wp2
        go_round
        case rel => exact ⟨k + 1, by go_num, by omega, fun j hj h => by
          by_cases e : j = k
          · subst e; rw [HX.out]; exact H1.out
          · exact HO.out j hj (by omega)⟩
        case measure => simp [intOf]; omega
    · obtain rfl : k = s.size := by omega
      have HF := Lib.hid (findL_none (c := c) (fun j hj => HO.out j hj hj))
      go_wp2
      go_ret
      exact ⟨ret_int (by rw [HF.out]), rfl⟩

/-- may a byte stand in a name? -/
def nmOk (b : UInt8) : Bool := decide (b.toNat ≠ 32 ∧ b.toNat ≠ 64 ∧ b.toNat ≠ 47 ∧ (b.toNat < 65 ∨ 90 < b.toNat))
def nameB (l : List UInt8) : Bool := l.all nmOk && plB l
theorem nameB_no {l : List UInt8} {b : UInt8} (hb : b ∈ l) (h : nmOk b = false) : nameB l = false := by
  unfold nameB
  have : l.all nmOk = false := by rw [List.all_eq_false]; exact ⟨b, hb, by simp [h]⟩
  rw [this]; rfl
theorem nameB_all {l : List UInt8} (h : ∀ b ∈ l, nmOk b = true) : nameB l = plB l := by
  unfold nameB
  have : l.all nmOk = true := List.all_eq_true.2 h
  rw [this]; rfl
set_option maxRecDepth 100000 in
set_option maxHeartbeats 2000000 in
theorem dname_any (s : ByteArray) (w : World) (hs : s.size ≤ 1099511627776) :
    Calls Tryd.prog 36 #[.string s] w fun e w' => e = .returned (.bool (nameB s.data.toList)) ∧ Below w.heap.size w w' := by
  have cp := fun W => refplain_any s W hs
  go_enter Tryd.func36, Tryd.ntmps36
  go_wp2
  go_loop [3] (fun i => ∃ k : Nat, i = .int .i64 k ∧ k ≤ s.size ∧ (∀ j (hj : j < s.size), j < k → nmOk (s[j]'hj) = true)) (fun i => s.size - (intOf i).toNat)
  case atStart => exact ⟨0, rfl, by omega, fun j hj h => by omega⟩
  case round =>
    obtain ⟨k, rfl, hk, hok⟩ := hrel
    have HO := Lib.hid hok
    clear hok
    by_cases hlt : k < s.size
    · have hlt' : (k : Int) < s.size := by omega
      obtain ⟨x, hx⟩ : ∃ x, s[k]'hlt = x := ⟨_, rfl⟩
      have HX := Lib.hid hx
      have HM := Lib.hid (show x ∈ s.data.toList from by rw [← hx, ← at_list s k hlt]; exact List.getElem_mem _)
      by_cases hb : nmOk x = true
      · have H1 := Lib.hid hb
        unfold nmOk at hb
        rw [decide_eq_true_iff] at hb
        obtain ⟨n1, n2, n3, n4⟩ := hb
        have e1 : ((x.toNat : Int) == 32) = false := by simp; omega
        have e2 : ((x.toNat : Int) == 64) = false := by simp; omega
        have e3 : ((x.toNat : Int) == 47) = false := by simp; omega
        by_cases h65 : (65 : Int) ≤ x.toNat
        · have h90 : ¬ ((x.toNat : Int) ≤ 90) := by omega
          clear n1 n2 n3 n4
          go_wp2
          go_round
          case rel => exact ⟨k + 1, by go_num, by omega, fun j hj h => by
            by_cases e : j = k
            · subst e; rw [HX.out]; exact H1.out
            · exact HO.out j hj (by omega)⟩
          case measure => simp [intOf]; omega
        · clear n1 n2 n3 n4
          go_wp2
          go_round
          case rel => exact ⟨k + 1, by go_num, by omega, fun j hj h => by
            by_cases e : j = k
            · subst e; rw [HX.out]; exact H1.out
            · exact HO.out j hj (by omega)⟩
          case measure => simp [intOf]; omega
      · have HN := Lib.hid (nameB_no HM.out (by simpa using hb))
        unfold nmOk at hb
        rw [decide_eq_true_iff] at hb
        by_cases n1 : x.toNat = 32
        · have e1 : ((x.toNat : Int) == 32) = true := by simp; omega
          clear n1 hb
          go_wp2
          go_ret
          exact ⟨ret_bool HN.out.symm, Below.refl _ _⟩
        have e1 : ((x.toNat : Int) == 32) = false := by simp; omega
        by_cases n2 : x.toNat = 64
        · have e2 : ((x.toNat : Int) == 64) = true := by simp; omega
          clear n1 n2 hb
          go_wp2
          go_ret
          exact ⟨ret_bool HN.out.symm, Below.refl _ _⟩
        have e2 : ((x.toNat : Int) == 64) = false := by simp; omega
        by_cases n3 : x.toNat = 47
        · have e3 : ((x.toNat : Int) == 47) = true := by simp; omega
          clear n1 n2 n3 hb
          go_wp2
          go_ret
          exact ⟨ret_bool HN.out.symm, Below.refl _ _⟩
        have e3 : ((x.toNat : Int) == 47) = false := by simp; omega
        have h65 : (65 : Int) ≤ x.toNat := by omega
        have h90 : (x.toNat : Int) ≤ 90 := by omega
        clear n1 n2 n3 hb
        go_wp2
        go_ret
        exact ⟨ret_bool HN.out.symm, Below.refl _ _⟩
    · obtain rfl : k = s.size := by omega
      have HN := Lib.hid (nameB_all (l := s.data.toList) (fun b hb => by
        obtain ⟨j, hj, rfl⟩ := List.mem_iff_getElem.1 hb
        have hj' : j < s.size := by rw [sz_list]; exact hj
        rw [at_list s j hj']
        exact HO.out j hj' hj'))
      go_wp2_with fail
      refine (cp _).mono ?_; rintro e w1 ⟨rfl, hb1⟩
      go_wp2
      go_ret
      exact ⟨ret_bool HN.out.symm, hb1⟩

/-- is a byte a small letter or a digit? -/
def ltB (b : UInt8) : Bool := decide ((97 ≤ b.toNat ∧ b.toNat ≤ 122) ∨ (48 ≤ b.toNat ∧ b.toNat ≤ 57))
theorem dletter_any (x : UInt8) (w : World) : Calls Tryd.prog 47 #[.int .u8 (x.toNat : Int)] w fun e w' => e = .returned (.bool (ltB x)) ∧ w' = w := by
  have hbd := UInt8.toNat_lt x
  have key : Hid (ltB x = decide (((97 : Int) ≤ x.toNat ∧ (x.toNat : Int) ≤ 122) ∨ ((48 : Int) ≤ x.toNat ∧ (x.toNat : Int) ≤ 57))) := Lib.hid (by
    unfold ltB; rw [Bool.eq_iff_iff, decide_eq_true_iff, decide_eq_true_iff]; omega)
  generalize ltB x = r at key ⊢
  generalize (x.toNat : Int) = y at key hbd ⊢
  clear hbd
  by_cases h1 : (97 : Int) ≤ y
  · by_cases h2 : y ≤ 122
    · have HR := Lib.hid (key.out.trans (decide_eq_true (Or.inl ⟨h1, h2⟩)))
      clear key
      go_enter Tryd.func47, Tryd.ntmps47
      go_wp2
      go_ret
      exact ⟨ret_bool HR.out.symm, rfl⟩
    · have h3 : (48 : Int) ≤ y := by omega
      have h4 : ¬ y ≤ 57 := by omega
      have HR := Lib.hid (key.out.trans (decide_eq_false (by omega)))
      clear key
      go_enter Tryd.func47, Tryd.ntmps47
      go_wp2
      go_ret
      exact ⟨ret_bool (by first | exact HR.out.symm | (rw [HR.out]; simp; omega)), rfl⟩
  · by_cases h3 : (48 : Int) ≤ y
    · by_cases h4 : y ≤ 57
      · have HR := Lib.hid (key.out.trans (decide_eq_true (Or.inr ⟨h3, h4⟩)))
        clear key
        go_enter Tryd.func47, Tryd.ntmps47
        go_wp2
        go_ret
        exact ⟨ret_bool (by first | exact HR.out.symm | (rw [HR.out]; simp; omega)), rfl⟩
      · have HR := Lib.hid (key.out.trans (decide_eq_false (by omega)))
        clear key
        go_enter Tryd.func47, Tryd.ntmps47
        go_wp2
        go_ret
        exact ⟨ret_bool (by first | exact HR.out.symm | (rw [HR.out]; simp; omega)), rfl⟩
    · have HR := Lib.hid (key.out.trans (decide_eq_false (by omega)))
      clear key
      go_enter Tryd.func47, Tryd.ntmps47
      go_wp2
      go_ret
      exact ⟨ret_bool (by first | exact HR.out.symm | (rw [HR.out]; simp; omega)), rfl⟩
end Go.Proofs.YtngaklciclbofaaDoor
