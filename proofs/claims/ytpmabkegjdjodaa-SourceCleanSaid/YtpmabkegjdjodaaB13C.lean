/- Layer 13, the document's: how long to wait; how many at most; whether two are one. -/
import Derived.Test.YtpmabkegjdjodaaB13B
namespace Go.Proofs.Ytpmabkegjdjodaa
open Go.RowKit
set_option linter.unusedVariables false
set_option linter.unusedSimpArgs false

theorem ceil_is {x R j : Int} (hx : 0 < x) (hR : 0 < R) (h1 : x ≤ R * j) (h2 : R * (j - 1) < x) : (x + R - 1) / R = j := by
  have e : R * (j - 1) = R * j - R := by rw [Int.mul_sub, Int.mul_one]
  have e1 : x + R - 1 = (x + R - 1 - R * j) + R * j := by omega
  rw [e1, Int.add_mul_ediv_left _ _ (by omega), Int.ediv_eq_zero_of_lt (by omega) (by omega)]
  omega
theorem wait_is {B R T A now n j : Int} (h : finB B R T A = true) (hn : 0 ≤ n) (hnB : n ≤ B) (hj : 0 ≤ j) (h1 : n ≤ lvlN B R T A now + R * j) (h2 : j = 0 ∨ (0 < R ∧ lvlN B R T A now + R * (j - 1) < n)) : waitN B R T A now n = j := by
  unfold waitN
  rw [if_pos ⟨h, hn, hnB⟩]
  rcases h2 with rfl | ⟨hR, h2⟩
  · rw [if_pos (by rw [Int.mul_zero] at h1; omega)]
  · by_cases hj0 : j = 0
    · subst hj0
      rw [if_pos (by rw [Int.mul_zero] at h1; omega)]
    · have hm : 0 ≤ R * (j - 1) := Int.mul_nonneg (by omega) (by omega)
      rw [if_neg (by omega), if_neg (by omega)]
      exact ceil_is (by omega) hR (by omega) (by omega)
set_option maxRecDepth 100000 in
set_option maxHeartbeats 4000000 in
theorem bdwait_any (B R T A now n : Int) (w : World) : Calls Try.prog 38 #[twV B R, twV T A, .int .i64 now, .int .i64 n] w fun e w' => e = .returned (.int .i64 (waitN B R T A now n)) ∧ Below w.heap.size w w' := by
  have c0 := Lib.hid (fun W => bdfine_any B R T A W)
  have c1 := Lib.hid (fun W => bdlevel_any B R T A now W)
  have X0 : Hid (∀ t t', Bx2 ((w.alloc (.cells #[.int .i64 B, .int .i64 R] t)).alloc (.cells #[.int .i64 T, .int .i64 A] t')) w.heap.size B R ∧ Bx2 ((w.alloc (.cells #[.int .i64 B, .int .i64 R] t)).alloc (.cells #[.int .i64 T, .int .i64 A] t')) (w.heap.size + 1) T A) := Lib.hid (fun t t' => by simp [Bx2, go_sem])
  simp only [twV] at *
  cases hf : finB B R T A with
  | false =>
    have HL : Hid (waitN B R T A now n = -1) := Lib.hid (if_neg (by rw [hf]; simp))
    rw [hf] at c0
    go_enter Try.func38, Try.ntmps38
    go_wp2_with fail
    refine (c0.out _).mono ?_; rintro e w1 ⟨rfl, hb1⟩
    go_wp2
    go_ret
    exact ⟨ret_int HL.out.symm, by (repeat (first | (with_reducible exact Below.refl _ _) | ((with_reducible refine below_alloc ?_ ?_ _); · (first | omega | (simp; done) | (simp; omega))) | ((with_reducible refine below_setCell ?_ ?_ _); · (first | omega | (simp; done) | (simp; omega))) | (with_reducible refine Below.drew ?_) | (with_reducible refine below_drewN ?_ _) | ((with_reducible refine below_call (by assumption) ?_ ?_); · (first | omega | (simp; done) | (simp; omega)))))⟩
  | true =>
  by_cases h0 : 0 ≤ n
  case neg =>
    have HL : Hid (waitN B R T A now n = -1) := Lib.hid (if_neg (by omega))
    have h0' : n < 0 := by omega
    rw [hf] at c0
    clear h0
    go_enter Try.func38, Try.ntmps38
    go_wp2_with fail
    refine (c0.out _).mono ?_; rintro e w1 ⟨rfl, hb1⟩
    go_wp2
    go_ret
    exact ⟨ret_int HL.out.symm, by (repeat (first | (with_reducible exact Below.refl _ _) | ((with_reducible refine below_alloc ?_ ?_ _); · (first | omega | (simp; done) | (simp; omega))) | ((with_reducible refine below_setCell ?_ ?_ _); · (first | omega | (simp; done) | (simp; omega))) | (with_reducible refine Below.drew ?_) | (with_reducible refine below_drewN ?_ _) | ((with_reducible refine below_call (by assumption) ?_ ?_); · (first | omega | (simp; done) | (simp; omega)))))⟩
  have h0' : ¬ n < 0 := by omega
  by_cases hB : n ≤ B
  case neg =>
    have HL : Hid (waitN B R T A now n = -1) := Lib.hid (if_neg (by omega))
    have hB' : B < n := by omega
    rw [hf] at c0
    clear h0 hB
    go_enter Try.func38, Try.ntmps38
    go_wp2_with fail
    refine (c0.out _).mono ?_; rintro e w1 ⟨rfl, hb1⟩
    obtain ⟨⟨x0, x1⟩, _⟩ := (X0.out _ _).imp (fun h => h.call hb1) (fun h => h.call hb1)
    go_wp2
    go_ret
    exact ⟨ret_int HL.out.symm, by (repeat (first | (with_reducible exact Below.refl _ _) | ((with_reducible refine below_alloc ?_ ?_ _); · (first | omega | (simp; done) | (simp; omega))) | ((with_reducible refine below_setCell ?_ ?_ _); · (first | omega | (simp; done) | (simp; omega))) | (with_reducible refine Below.drew ?_) | (with_reducible refine below_drewN ?_ _) | ((with_reducible refine below_call (by assumption) ?_ ?_); · (first | omega | (simp; done) | (simp; omega)))))⟩
  have hB' : ¬ B < n := by omega
  have hlb := lvl_bd hf now
  obtain ⟨⟨hc1, hc2⟩, _⟩ := fin_iff.1 hf
  have HW : Hid (∀ j : Int, 0 ≤ j → n ≤ lvlN B R T A now + R * j → (j = 0 ∨ (0 < R ∧ lvlN B R T A now + R * (j - 1) < n)) → waitN B R T A now n = j) := Lib.hid (fun j a b c => wait_is hf h0 hB a b c)
  have HZ : Hid (lvlN B R T A now < n → R = 0 → waitN B R T A now n = -1) := Lib.hid (fun a b => by unfold waitN; rw [if_pos ⟨hf, h0, hB⟩, if_neg (by omega), if_pos b])
  rw [hf] at c0
  generalize lvlN B R T A now = L at c1 hlb HW HZ
  clear hf
  go_enter Try.func38, Try.ntmps38
  go_wp2_with fail
  refine (c0.out _).mono ?_; rintro e w1 ⟨rfl, hb1⟩
  have B1 : Below w.heap.size w w1 := by (repeat (first | (with_reducible exact Below.refl _ _) | ((with_reducible refine below_alloc ?_ ?_ _); · (first | omega | (simp; done) | (simp; omega))) | ((with_reducible refine below_setCell ?_ ?_ _); · (first | omega | (simp; done) | (simp; omega))) | (with_reducible refine Below.drew ?_) | (with_reducible refine below_drewN ?_ _) | ((with_reducible refine below_call (by assumption) ?_ ?_); · (first | omega | (simp; done) | (simp; omega)))))
  have X1 := Lib.hid ((X0.out _ _).imp (fun h => h.call hb1) (fun h => h.call hb1))
  obtain ⟨⟨x0, x1⟩, ⟨y0, y1⟩⟩ := id X1.out
  go_wp2_with fail
  refine (c1.out _).mono ?_; rintro e w2 ⟨rfl, hb2⟩
  have B2 := below_call hb2 B1.size B1
  have X2 := Lib.hid (X1.out.1.call hb2)
  clear x0 x1 y0 y1 X0 X1 c0 c1
  go_wp2
  go_loopw [9, 10] (fun lv kv wr => ∃ j : Nat, lv = .int .i64 (L + R * j) ∧ kv = .int .i64 j ∧ (j = 0 ∨ (0 < R ∧ L + R * ((j : Int) - 1) < n)) ∧ Bx2 wr w.heap.size B R ∧ Below w.heap.size w wr) (fun lv _ _ => (n - intOf lv).toNat)
  case atStart => exact ⟨0, by simp, rfl, .inl rfl, X2.out, B2⟩
  case round =>
    obtain ⟨j, rfl, rfl, hj, hX, hBr⟩ := hrel
    obtain ⟨x0, x1⟩ := hX
    have HX : Hid (Bx2 wr w.heap.size B R) := Lib.hid ⟨x0, x1⟩
    have HJ := Lib.hid hj
    have hjb : (j : Int) ≤ 1001 := by
      rcases hj with h | ⟨h1, h2⟩
      · omega
      · have h3 : 1 * ((j : Int) - 1) ≤ R * ((j : Int) - 1) ∨ (j : Int) - 1 < 0 := by
          by_cases hq : 0 ≤ (j : Int) - 1
          · exact .inl (Int.mul_le_mul_of_nonneg_right (by omega) hq)
          · exact .inr (by omega)
        rcases h3 with h3 | h3
        · omega
        · omega
    clear hj X2
    by_cases hlt : L + R * (j : Int) < n
    · by_cases hR : R = 0
      · have hr0 : (R == 0) = true := by simp [hR]
        have HR := Lib.hid (HZ.out (by rw [hR, Int.zero_mul] at hlt; omega) hR)
        clear hR
        go_wp2
        go_ret
        exact ⟨ret_int HR.out.symm, hBr⟩
      · have hr0 : (R == 0) = false := by simp [hR]
        have hRp : 0 < R := by omega
        have e1 : R * ((j : Int) + 1) = R * j + R := by rw [Int.mul_add, Int.mul_one]
        have hw1 : IntKind.i64.wrap (L + R * (j : Int) + R) = L + R * (j : Int) + R := IntWalk.i64_in _ (by
          have := Int.mul_nonneg hc2.1 (show (0 : Int) ≤ j by omega)
          omega)
        have hw2 : IntKind.i64.wrap ((j : Int) + 1) = (j : Int) + 1 := IntWalk.i64_in _ (by omega)
        have HN : Hid (L + R * (((j + 1 : Nat) : Int) - 1) < n) := Lib.hid (by rw [show ((j + 1 : Nat) : Int) - 1 = j by omega]; exact hlt)
        clear hR
        go_wp2
        go_roundw
        case rel => exact ⟨j + 1, by rw [Int.natCast_add, Int.natCast_one, e1, Int.add_assoc], by rw [Int.natCast_add, Int.natCast_one], .inr ⟨hRp, HN.out⟩, HX.out, hBr⟩
        case measure => simp only [intOf]; omega
    · have HR := Lib.hid (HW.out j (by omega) (by omega) (by
        rcases HJ.out with h | h
        · exact .inl (by omega)
        · exact .inr h))
      go_wp2
      go_ret
      exact ⟨ret_int HR.out.symm, hBr⟩
end Go.Proofs.Ytpmabkegjdjodaa
