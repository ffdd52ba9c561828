/- Layer 9, the program's: what may be a host. -/
import Derived.Test.YtiiikfcipnggeaaDoorA9H
namespace Go.Proofs.YtiiikfcipnggeaaDoor
open Go.RowKit
set_option linter.unusedVariables false
set_option linter.unusedSimpArgs false

def okH (b : UInt8) : Bool := leB b || (diB b || mkB b)
theorem ltB_eq (b : UInt8) : ltB b = (leB b || diB b) := by
  unfold ltB leB diB
  rw [Bool.eq_iff_iff, Bool.or_eq_true, decide_eq_true_iff, decide_eq_true_iff, decide_eq_true_iff]
theorem hostB_iff {s : ByteArray} : hostB s.data.toList = true ↔ ∀ k (hk : k < s.size), hsBad s.size k (s[k]'hk) (s[k - 1]'(by omega)) = false := by
  constructor
  · intro h k hk
    cases hb : hsBad s.size k (s[k]'hk) (s[k - 1]'(by omega)) with
    | false => rfl
    | true => rw [hostB_no hk hb] at h; cases h
  · exact hostB_all
theorem hs_bad_iff {n k : Nat} {x p : UInt8} : hsBad n k x p = false ↔ (ltB x = true ∨ (0 < k ∧ k + 1 ≠ n ∧ (x.toNat = 45 ∨ x.toNat = 46))) ∧ ¬ (0 < k ∧ x.toNat = 46 ∧ p.toNat = 46) := by
  unfold hsBad
  cases h : ltB x with
  | true => simp
  | false =>
    simp
    omega
theorem ltB_mk {x : UInt8} (h : ltB x = true) : mkB x = false := by
  obtain ⟨h1, h2⟩ := ltB_no46 h
  exact decide_eq_false (by omega)
theorem okH_lt {x : UInt8} (h : okH x = true) (hm : mkB x = false) : ltB x = true := by
  unfold okH at h
  rw [hm, Bool.or_false, ← ltB_eq] at h
  exact h
theorem dots_no {s : ByteArray} (h : dotsB s.data.toList = false) (k : Nat) (hk : k < s.size) (h0 : 0 < k) : ¬ ((s[k]'hk).toNat = 46 ∧ (s[k - 1]'(by omega)).toNat = 46) := by
  rintro ⟨h1, h2⟩
  have : dotsB s.data.toList = true := by
    refine dots_iff.2 ⟨k - 1, occ_dots.2 ⟨by rw [← sz_list]; omega, ?_, ?_⟩⟩
    · rw [at_list s (k - 1) (by omega)]; exact h2
    · have e : k - 1 + 1 = k := by omega
      simp only [e]
      rw [at_list s k hk]; exact h1
  rw [h] at this
  cases this
/-- a host, if all bytes may stand in one, none of its ends is a mark, and no two points are side by side -/
theorem host_yes {s : ByteArray} (h0 : 0 < s.size) (ha : ∀ j (hj : j < s.size), okH (s[j]'hj) = true) (h1 : mkB (s[0]'h0) = false) (h2 : mkB (s[s.size - 1]'(by omega)) = false) (h3 : dotsB s.data.toList = false) : hostB s.data.toList = true := by
  rw [hostB_iff]
  intro k hk
  rw [hs_bad_iff]
  refine ⟨?_, ?_⟩
  · cases hm : mkB (s[k]'hk) with
    | false => exact .inl (okH_lt (ha k hk) hm)
    | true =>
      refine .inr ⟨?_, ?_, ?_⟩
      · by_cases e : k = 0
        · subst e; rw [h1] at hm; cases hm
        · omega
      · intro e
        have e : k = s.size - 1 := by omega
        subst e; rw [h2] at hm; cases hm
      · unfold mkB at hm
        rw [decide_eq_true_iff] at hm
        omega
  · rintro ⟨g0, g1, g2⟩
    exact dots_no h3 k hk g0 ⟨g1, g2⟩
theorem host_bad {s : ByteArray} {k : Nat} (hk : k < s.size) (h : okH (s[k]'hk) = false) : hostB s.data.toList = false := by
  cases hh : hostB s.data.toList with
  | false => rfl
  | true =>
    have := (hs_bad_iff.1 (hostB_iff.1 hh k hk)).1
    unfold okH at h
    rw [Bool.or_eq_false_iff, Bool.or_eq_false_iff] at h
    obtain ⟨g1, g2, g3⟩ := h
    rcases this with t | ⟨_, _, t⟩
    · rw [ltB_eq, g1, g2] at t; cases t
    · unfold mkB at g3
      rw [decide_eq_false_iff_not] at g3
      omega
theorem host_first {s : ByteArray} (h0 : 0 < s.size) (h : mkB (s[0]'h0) = true) : hostB s.data.toList = false := by
  cases hh : hostB s.data.toList with
  | false => rfl
  | true =>
    rcases (hs_bad_iff.1 (hostB_iff.1 hh 0 h0)).1 with t | ⟨t, _⟩
    · rw [ltB_mk t] at h; cases h
    · omega
theorem host_last {s : ByteArray} (h0 : 0 < s.size) (h : mkB (s[s.size - 1]'(by omega)) = true) : hostB s.data.toList = false := by
  cases hh : hostB s.data.toList with
  | false => rfl
  | true =>
    rcases (hs_bad_iff.1 (hostB_iff.1 hh (s.size - 1) (by omega))).1 with t | ⟨_, t, _⟩
    · rw [ltB_mk t] at h; cases h
    · omega
theorem host_dots {s : ByteArray} (h : dotsB s.data.toList = true) : hostB s.data.toList = false := by
  cases hh : hostB s.data.toList with
  | false => rfl
  | true =>
    obtain ⟨k, hk⟩ := dots_iff.1 h
    obtain ⟨hl, h1, h2⟩ := occ_dots.1 hk
    have hl' : k + 1 < s.size := by rw [sz_list]; exact hl
    rw [at_list s k (by omega)] at h1
    rw [at_list s (k + 1) hl'] at h2
    have := (hs_bad_iff.1 (hostB_iff.1 hh (k + 1) hl')).2
    exact absurd ⟨by omega, h2, h1⟩ this

set_option maxRecDepth 100000 in
set_option maxHeartbeats 4000000 in
theorem ahost_any (s : ByteArray) (w : World) (hm : Maxs w) (h0 : 0 < s.size) (hs : s.size ≤ 1000000) :
    Calls Tryd.prog 69 #[.string s] w fun e w' => e = .returned (.bool (hostB s.data.toList)) ∧ Below w.heap.size w w' := by
  have cd := Lib.hid (contains_any s w hm hs)
  have c1 := Lib.hid (fun x W => aletter_any x W)
  have c2 := Lib.hid (fun x W => adigit_any x W)
  have c3 := Lib.hid (fun x W => amark_any x W)
  clear hm
  go_enter Tryd.func69, Tryd.ntmps69
  go_wp2
  go_loop [6] (fun i => ∃ k : Nat, i = .int .i64 k ∧ k ≤ s.size ∧ (∀ j (hj : j < s.size), j < k → okH (s[j]'hj) = true)) (fun i => s.size - (intOf i).toNat)
  case atStart => exact ⟨0, rfl, by omega, fun j hj h => by omega⟩
  case round =>
    obtain ⟨k, rfl, hk, hok⟩ := hrel
    have HO := Lib.hid hok
    clear hok
    by_cases hlt : k < s.size
    · have hlt' : (k : Int) < s.size := by omega
      obtain ⟨x, hx⟩ : ∃ x, s[k]'hlt = x := ⟨_, rfl⟩
      have HX := Lib.hid hx
      have HGO := Lib.hid (show okH x = true → ∀ j (hj : j < s.size), j < k + 1 → okH (s[j]'hj) = true from fun hg j hj h => by
        by_cases e : j = k
        · subst e; rw [hx]; exact hg
        · exact HO.out j hj (by omega))
      have HNO := Lib.hid (show okH x = false → hostB s.data.toList = false from fun hb => host_bad hlt (by rw [hx]; exact hb))
      have q1 := Lib.hid (c1.out x w)
      have q2 := Lib.hid (c2.out x w)
      have q3 := Lib.hid (c3.out x w)
      cases hl : leB x with
      | true =>
        have HG := Lib.hid (HGO.out (by unfold okH; rw [hl]; rfl))
        rw [hl] at q1
        clear hl
        go_wp2_with fail
        refine q1.out.mono ?_; rintro e w1 ⟨rfl, rfl⟩
        go_wp2
        go_round
        case rel => exact ⟨k + 1, by go_num, by omega, HG.out⟩
        case measure => simp [intOf]; omega
      | false =>
        rw [hl] at q1
        cases hd : diB x with
        | true =>
          have HG := Lib.hid (HGO.out (by unfold okH; rw [hl, hd]; rfl))
          rw [hd] at q2
          clear hl hd
          go_wp2_with fail
          refine q1.out.mono ?_; rintro e w1 ⟨rfl, rfl⟩
          go_wp2_with fail
          refine q2.out.mono ?_; rintro e w1 ⟨rfl, rfl⟩
          go_wp2
          go_round
          case rel => exact ⟨k + 1, by go_num, by omega, HG.out⟩
          case measure => simp [intOf]; omega
        | false =>
          rw [hd] at q2
          cases hm : mkB x with
          | true =>
            have HG := Lib.hid (HGO.out (by unfold okH; rw [hl, hd, hm]; rfl))
            rw [hm] at q3
            clear hl hd hm
            go_wp2_with fail
            refine q1.out.mono ?_; rintro e w1 ⟨rfl, rfl⟩
            go_wp2_with fail
            refine q2.out.mono ?_; rintro e w1 ⟨rfl, rfl⟩
            go_wp2_with fail
            refine q3.out.mono ?_; rintro e w1 ⟨rfl, rfl⟩
            go_wp2
            go_round
            case rel => exact ⟨k + 1, by go_num, by omega, HG.out⟩
            case measure => simp [intOf]; omega
          | false =>
            have HN := Lib.hid (HNO.out (by unfold okH; rw [hl, hd, hm]; rfl))
            rw [hm] at q3
            clear hl hd hm
            go_wp2_with fail
            refine q1.out.mono ?_; rintro e w1 ⟨rfl, rfl⟩
            go_wp2_with fail
            refine q2.out.mono ?_; rintro e w1 ⟨rfl, rfl⟩
            go_wp2_with fail
            refine q3.out.mono ?_; rintro e w1 ⟨rfl, rfl⟩
            go_wp2
            go_ret
            exact ⟨ret_bool HN.out.symm, Below.refl _ _⟩
    · obtain rfl : k = s.size := by omega
      have hlast : s.size - 1 < s.size := by omega
      obtain ⟨x, hx⟩ : ∃ x, s[0]'h0 = x := ⟨_, rfl⟩
      obtain ⟨y, hy⟩ : ∃ y, s[s.size - 1]'hlast = y := ⟨_, rfl⟩
      have hgx : s.data[0]? = some x := by rw [← hx]; exact Array.getElem?_eq_getElem (by simpa using h0)
      have hwl : IntKind.i64.wrap ((s.size : Int) - 1) = ((s.size - 1 : Nat) : Int) := by rw [IntWalk.i64_in _ (by omega)]; omega
      have h0' : (0 : Int) < s.size := by omega
      have hl' : ((s.size - 1 : Nat) : Int) < s.size := by omega
      have q1 := Lib.hid (c3.out x w)
      have q2 := Lib.hid (c3.out y w)
      have H1 := Lib.hid (show mkB x = true → hostB s.data.toList = false from fun h => host_first h0 (by rw [hx]; exact h))
      have H2 := Lib.hid (show mkB y = true → hostB s.data.toList = false from fun h => host_last h0 (by rw [hy]; exact h))
      have H3 := Lib.hid (show dotsB s.data.toList = true → hostB s.data.toList = false from fun h => host_dots h)
      have H4 := Lib.hid (show mkB x = false → mkB y = false → dotsB s.data.toList = false → hostB s.data.toList = true from fun a b c => host_yes h0 (fun j hj => HO.out j hj hj) (by rw [hx]; exact a) (by rw [hy]; exact b) c)
      clear HO
      cases m1 : mkB x with
      | true =>
        have HN := Lib.hid (H1.out m1)
        rw [m1] at q1
        clear H1 H2 H3 H4 m1
        go_wp2_with fail
        refine q1.out.mono ?_; rintro e w1 ⟨rfl, rfl⟩
        go_wp2
        go_ret
        exact ⟨ret_bool HN.out.symm, Below.refl _ _⟩
      | false =>
        rw [m1] at q1
        cases m2 : mkB y with
        | true =>
          have HN := Lib.hid (H2.out m2)
          rw [m2] at q2
          clear H1 H2 H3 H4 m1 m2
          go_wp2_with fail
          refine q1.out.mono ?_; rintro e w1 ⟨rfl, rfl⟩
          go_wp2_with fail
          refine q2.out.mono ?_; rintro e w1 ⟨rfl, rfl⟩
          go_wp2
          go_ret
          exact ⟨ret_bool HN.out.symm, Below.refl _ _⟩
        | false =>
          rw [m2] at q2
          cases m3 : dotsB s.data.toList with
          | true =>
            have HN := Lib.hid (H3.out m3)
            rw [m3] at cd
            clear H1 H2 H3 H4 m1 m2 m3
            go_wp2_with fail
            refine q1.out.mono ?_; rintro e w1 ⟨rfl, rfl⟩
            go_wp2_with fail
            refine q2.out.mono ?_; rintro e w1 ⟨rfl, rfl⟩
            go_wp2_with fail
            refine cd.out.mono ?_; rintro e w1 ⟨rfl, hb1⟩
            go_wp2
            go_ret
            exact ⟨ret_bool HN.out.symm, hb1⟩
          | false =>
            have HN := Lib.hid (H4.out m1 m2 m3)
            rw [m3] at cd
            clear H1 H2 H3 H4 m1 m2 m3
            go_wp2_with fail
            refine q1.out.mono ?_; rintro e w1 ⟨rfl, rfl⟩
            go_wp2_with fail
            refine q2.out.mono ?_; rintro e w1 ⟨rfl, rfl⟩
            go_wp2_with fail
            refine cd.out.mono ?_; rintro e w1 ⟨rfl, hb1⟩
            go_wp2
            go_ret
            exact ⟨ret_bool HN.out.symm, hb1⟩
end Go.Proofs.YtiiikfcipnggeaaDoor
