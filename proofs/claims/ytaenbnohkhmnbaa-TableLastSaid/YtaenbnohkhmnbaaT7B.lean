/- Layer 7, the program's: contracts: find, Where, place. -/
import Derived.Test.YtaenbnohkhmnbaaT7A
import Derived.WalkMore
namespace Go.Proofs.Ytaenbnohkhmnbaa
open Go.RowKit
set_option linter.unusedVariables false
set_option linter.unusedSimpArgs false

theorem findF_stop {c : Nat → Sl} {N : Nat} {k : ByteArray} {f a : Nat} {R : Nat × Bool} (h : findF c N k (f + 1) a = some R) (hc : c a = none) : R = (a, false) := by
  unfold findF at h; rw [hc] at h; exact (Option.some.inj h).symm
theorem findF_hit {c : Nat → Sl} {N : Nat} {k : ByteArray} {f a : Nat} {R : Nat × Bool} {e : Ent} (h : findF c N k (f + 1) a = some R) (hc : c a = some e) (he : e.1 = k) : R = (a, true) := by
  unfold findF at h; rw [hc] at h; dsimp only at h; rw [if_pos he] at h; exact (Option.some.inj h).symm
theorem findF_on {c : Nat → Sl} {N : Nat} {k : ByteArray} {f a : Nat} {R : Nat × Bool} {e : Ent} (h : findF c N k (f + 1) a = some R) (hc : c a = some e) (he : ¬ e.1 = k) : findF c N k f (nxt N a) = some R := by
  unfold findF at h; rw [hc] at h; dsimp only at h; rw [if_neg he] at h; exact h

theorem findF_at {c : Nat → Sl} {N : Nat} {k : ByteArray} {r : Nat} {b : Bool} : ∀ (f a : Nat), a < N → findF c N k f a = some (r, b) → r < N ∧ (c r = none ∨ ∃ e, c r = some e ∧ e.1 = k)
  | 0, _, _, h => by simp [findF] at h
  | f + 1, a, ha, h => by
    cases hc : c a with
    | none => have := findF_stop h hc; cases this; exact ⟨ha, .inl hc⟩
    | some e =>
      by_cases he : e.1 = k
      · have := findF_hit h hc he; cases this; exact ⟨ha, .inr ⟨e, hc, he⟩⟩
      · exact findF_at f (nxt N a) (nxt_lt ha) (findF_on h hc he)
theorem dist_nxt {N a r : Nat} (ha : a < N) (hr : r < N) (h : a ≠ r) : dist N (nxt N a) r + 1 = dist N a r := by
  have h1 := dist_spec N a r
  have h2 := dist_spec N (nxt N a) r
  unfold nxt at h2 ⊢
  split at h2 <;> rename_i e
  · rw [if_pos e]; omega
  · rw [if_neg e]; omega

set_option maxHeartbeats 2000000 in
theorem find_any (g h N K : Nat) (c : Nat → Sl) (k : ByteArray) (F r : Nat) (b : Bool) (w : World) (H : LieT w g h N K c) (hk : k.size ≤ maxLen) (hf : findF c N k F (ow N k) = some (r, b)) :
    Calls Try.prog 28 #[ptrV g, .string k] w fun e w' => e = .returned (.tuple #[.int .i64 r, .bool b]) ∧ Below w.heap.size w w' := by
  have co := own_any g h N K c k w H hk
  have HC := Lib.hid H
  have hN := H.hN
  have hlt : ow N k < N := ow_lt (by omega) k
  have hgl := H.ltg
  have hhl := H.lth
  clear H hk
  go_enter Try.func28, Try.ntmps28
  go_wp2_with fail
  go_step3
  go_wp2_with fail
  refine co.mono ?_; rintro e w1 ⟨rfl, hb1⟩
  have HB := Lib.hid hb1
  clear co hb1
  go_wp2
  go_step3
  go_wp2
  go_loopw [6, 7] (fun at_ th wr => ∃ f a : Nat, at_ = .int .i64 a ∧ th = .bool false ∧ a < N ∧ Hid (findF c N k f a = some (r, b)) ∧ Hid (Below w.heap.size w wr)) (fun at_ _ _ => dist N (intOf at_).toNat r)
  case atStart => exact ⟨F, ow N k, rfl, rfl, hlt, Lib.hid hf, HB⟩
  case round =>
    clear HB hf hlt
    obtain ⟨f, a, rfl, rfl, ha, HF, HB⟩ := hrel
    cases f with
    | zero => simp [findF] at HF; exact absurd HF.out (by simp [findF])
    | succ f =>
    have HW := Lib.hid (HC.out.call HB.out)
    have c0 := HW.out.c0
    have k0 := HW.out.k0 a ha
    have k1 := HW.out.k1 a ha
    have k2 := HW.out.k2 a ha
    have hz := HB.out.size
    have ha' : (a : Int) < N := by omega
    cases hc : c a with
    | none =>
      rw [hc] at k0 k1 k2
      simp only [keyO, valO, Option.isSome] at k0 k1 k2
      have hr := findF_stop HF.out hc
      cases hr
      go_wp2
      rw [Exit.noGoto_ret]
      go_ret2
      exact ⟨rfl, below_alloc HB.out.size HB.out _⟩
    | some e =>
      rw [hc] at k0 k1 k2
      simp only [keyO, valO, Option.isSome] at k0 k1 k2
      by_cases he : e.1 = k
      · have hr := findF_hit HF.out hc he
        cases hr
        have hs : (e.1.toList == k.toList) = true := by rw [str_beq]; simpa using he
        clear he hc
        go_wp2
        rw [Exit.noGoto_ret]
        go_ret2
        exact ⟨rfl, below_alloc HB.out.size HB.out _⟩
      · have hs : (e.1.toList == k.toList) = false := by rw [str_beq]; simpa using he
        have HF2 := Lib.hid (findF_on HF.out hc he)
        have hR := findF_at _ _ ha HF.out
        have hne : Hid (a ≠ r) := Lib.hid (by
          rintro rfl
          rcases hR.2 with h | ⟨e2, h, h3⟩
          · rw [hc] at h; cases h
          · rw [hc] at h; cases h; exact he h3)
        have hr := Lib.hid hR.1
        have hm := Lib.hid (dist_nxt ha hr.out hne.out)
        have hn := nxt_lt ha
        clear hR he hc
        go_wp2_with fail
        have HBa := Lib.hid (show Below w.heap.size w _ from HB.out.alloc (by omega) (.cells #[.string e.1, .int .i64 e.2, .bool true] 62))
        refine (behind_any g h N K c a _ (HC.out.call HBa.out) ha).mono ?_; rintro e w3 ⟨rfl, hb3⟩
        go_wp2
        go_roundw
        case rel => exact ⟨f, nxt N a, rfl, rfl, hn, HF2, Lib.hid (below_call hb3 HBa.out.size HBa.out)⟩
        case measure => have := hm.out; simp [intOf]; omega
end Go.Proofs.Ytaenbnohkhmnbaa
