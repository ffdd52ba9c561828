/- Layer 7: contract of the law's few. -/
import Derived.Test.YtaenbnohkhmnbaaT7X
import Derived.Test.YtaenbnohkhmnbaaLawOpen7
namespace Go.Proofs.Ytaenbnohkhmnbaa
open Go.RowKit
set_option linter.unusedVariables false
set_option linter.unusedSimpArgs false

/-- is each key no longer than a hundred bytes, from one on? -/
def FewTo (l : List Cal) (k : Nat) : Prop := ∀ j (h : j < l.length), j < k → l[j].2.1.size ≤ 100
/-- a call that tells whether calls are few and small enough -/
def FewP (w : World) (l : List Cal) (m : Int) (e : Ending) (w' : World) : Prop := ∃ b, e = .returned (.bool b) ∧ w' = w ∧ (b = true → (l.length : Int) ≤ m ∧ ∀ d ∈ l, d.2.1.size ≤ 100)
set_option maxRecDepth 100000 in
set_option maxHeartbeats 4000000 in
theorem few_any (v : Value) (l : List Cal) (m : Int) (w : World) (hv : IsAc w v l) (hl : l.length ≤ maxLen) :
    Calls Try.prog 14 #[v, .int .i64 m] w (FewP w l m) := by
  obtain ⟨p, cap, rfl, hrd⟩ := hv
  have H := Lib.hid hrd
  have hl' : (l.length : Int) ≤ maxLen := by omega
  unfold maxLen at hl hl'
  clear hrd
  by_cases hm : m < l.length
  · go_enter Try.func14, Try.ntmps14
    go_wp2
    go_ret
    exact ⟨false, rfl, rfl, fun h => by cases h⟩
  have hm' : (l.length : Int) ≤ m := by omega
  clear hm
  go_enter Try.func14, Try.ntmps14
  go_wp2
  go_loop [5] (fun i => ∃ k : Nat, i = .int .i64 k ∧ k ≤ l.length ∧ Hid (FewTo l k)) (fun i => l.length - (intOf i).toNat)
  case atStart => exact ⟨0, rfl, Nat.zero_le _, Lib.hid (fun j _ h => by omega)⟩
  case round =>
    obtain ⟨k, rfl, hk, HF⟩ := hrel
    by_cases hlt : k < l.length
    · have hlt' : (k : Int) < l.length := by omega
      obtain ⟨b, off, rfl, d0, d1, d2⟩ := H.out k hlt
      obtain ⟨s, hs⟩ : ∃ s, l[k].2.1 = s := ⟨_, rfl⟩
      rw [hs] at d1
      have HS := Lib.hid hs
      clear d0 d2 hs
      by_cases h1 : 100 < s.size
      · have h1' : (100 : Int) < s.size := by omega
        clear h1
        go_wp2
        go_ret
        exact ⟨false, rfl, rfl, fun h => by cases h⟩
      · have h1' : ¬ (100 : Int) < s.size := by omega
        have HF2 := Lib.hid (show FewTo l (k + 1) from fun j hj hjk => by
          by_cases e : j = k
          · subst e; rw [HS.out]; omega
          · exact HF.out j hj (by omega))
        clear h1
        go_wp2
        go_round
        case rel => exact ⟨k + 1, by go_num, by omega, HF2⟩
        case measure => simp [intOf]; omega
    · obtain rfl : k = l.length := by omega
      go_wp2
      go_ret
      exact ⟨true, rfl, rfl, fun _ => ⟨hm', fun d hd => by
        obtain ⟨j, hj, rfl⟩ := List.mem_iff_getElem.1 hd
        exact HF.out j hj hj⟩⟩
end Go.Proofs.Ytaenbnohkhmnbaa
