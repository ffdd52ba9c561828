/- The contracts of octet.Num and octet.Rest, and of the document's Rest and Done. -/
import Derived.Test.YtbaclfpkaobggaaOctB
namespace Go.Proofs.Ytbaclfpkaobggaa
open Go.RowKit
set_option linter.unusedVariables false
set_option linter.unusedSimpArgs false

set_option maxHeartbeats 1000000 in
theorem num_any (s : ByteArray) (a b n : Int) (w : World) (hs : s.size ≤ maxLen) :
    Calls Try.prog 23 #[.agg #[.string s, .int .i64 a, .int .i64 b], .int .i64 n] w fun e w' => e = .returned (numV s a b n) ∧ Below w.heap.size w w' := by
  have hs' := hs
  unfold maxLen at hs'
  by_cases hc : chk s a b = 0
  · obtain ⟨rfl, h0, h1⟩ : b = 0 ∧ 0 ≤ a ∧ a ≤ s.size := chk_zero hc
    obtain ⟨a, rfl⟩ : ∃ x : Nat, a = x := ⟨a.toNat, by omega⟩
    have hc1 : (chk s a 0 != 0) = false := by simp [hc]
    have Hc := Lib.hid hc
    clear hc
    by_cases hw : wide n = true
    · obtain ⟨hn1, hn6⟩ := wide_bd hw
      obtain ⟨n, rfl⟩ : ∃ x : Nat, n = x := ⟨n.toNat, by omega⟩
      have hw1 : (!wide n) = false := by simp [hw]
      have Hw := Lib.hid hw
      clear hw
      by_cases hl : (n : Int) ≤ (s.size : Int) - a
      · go_enter Try.func23, Try.ntmps23
        go_wp2_with (first | (go_at_call 32; refine (checked_any _ _ _ _ hs).mono ?_; rintro e w1 ⟨rfl, hb1⟩; obtain ⟨hk1, hf1, hz1⟩ := bcellN (n := w.heap.size + 2) (by (try simp only [World.size_drew, World.size_alloc, World.size_setCell]); omega) hb1; have hz1_0 : w.heap.size < w1.heap.size := (by omega); have hz1_1 : w.heap.size + 1 < w1.heap.size := (by omega)) | (go_at_call 33; refine (isWidth_any _ _).mono ?_; rintro e w' ⟨rfl, rfl⟩))
        have hR : Row3 (((w1.setCell ⟨w.heap.size, 0, none⟩ (.string s)).setCell ⟨w.heap.size, 1, none⟩ (.int .i64 a)).setCell ⟨w.heap.size, 2, none⟩ (.int .i64 (chk s a 0))) w.heap.size (.string s) (.int .i64 a) (.int .i64 0) := by
          have h : Row3 w1 w.heap.size (.string s) (.int .i64 a) (.int .i64 0) := by simp [Row3, hk1, hf1]
          have h' := ((h.set0 (.string s)).set1 (.int .i64 a)).set2 (.int .i64 (chk s a 0))
          rw [Hc.out] at h' ⊢; exact h'
        have hS2 : Row3 (((w1.setCell ⟨w.heap.size, 0, none⟩ (.string s)).setCell ⟨w.heap.size, 1, none⟩ (.int .i64 a)).setCell ⟨w.heap.size, 2, none⟩ (.int .i64 (chk s a 0))) (w.heap.size + 1) (.string ⟨#[]⟩) (.int .i64 0) (.int .i64 0) := by
          have h : Row3 w1 (w.heap.size + 1) (.string ⟨#[]⟩) (.int .i64 0) (.int .i64 0) := by simp [Row3, hk1, hf1]
          exact ((h.other (by simp) _).other (by simp) _).other (by simp) _
        have hB : Below w.heap.size w (((w1.setCell ⟨w.heap.size, 0, none⟩ (.string s)).setCell ⟨w.heap.size, 1, none⟩ (.int .i64 a)).setCell ⟨w.heap.size, 2, none⟩ (.int .i64 (chk s a 0))) := by (repeat (first | (with_reducible exact Below.refl _ _) | ((with_reducible refine below_alloc ?_ ?_ _); · (first | omega | (simp; done) | (simp; omega))) | ((with_reducible refine below_setCell ?_ ?_ _); · (first | omega | (simp; done) | (simp; omega))) | (with_reducible refine Below.drew ?_) | (with_reducible refine below_drewN ?_ _) | ((with_reducible refine below_call (by assumption) ?_ ?_); · (first | omega | (simp; done) | (simp; omega)))))
        generalize (((w1.setCell ⟨w.heap.size, 0, none⟩ (.string s)).setCell ⟨w.heap.size, 1, none⟩ (.int .i64 a)).setCell ⟨w.heap.size, 2, none⟩ (.int .i64 (chk s a 0))) = wo at hR hS2 hB ⊢
        clear hk1 hf1 hb1
        obtain ⟨⟨c0, c1, c2⟩, f0, f1, f2⟩ := id hR
        obtain ⟨⟨d0, d1, d2⟩, g0, g1, g2⟩ := id hS2
        go_loop [6, 30] (fun v i => ∃ k : Nat, (k : Int) ≤ n ∧ i = .int .i64 k ∧ v = .int .i64 (be (cut s a k))) (fun _ i => n - (intOf i).toNat)
        case atStart => exact ⟨0, by omega, rfl, rfl⟩
        case round =>
          obtain ⟨k, hkn, rfl, rfl⟩ := hrel
          by_cases hlt : (k : Int) < n
          · have hidx : a + k < s.size := by omega
            have hs1 := cut_succ hidx
            have hS : Hid (be (cut s a (k + 1)) = 256 * be (cut s a k) + (s[a + k].toNat : Int)) := by rw [hs1]; exact be_snoc _ _
            have b0 := be_nonneg (cut s a k)
            have b1 := be_cut_lt (s := s) (a := a) (k := k) (by omega) (by omega)
            have hN : Hid (bits BinOp.or IntKind.i64 (be (cut s a k) * 256) (wrap64 (s[a + k].toNat : Int)) = 256 * be (cut s a k) + (s[a + k].toNat : Int)) := or_byte b0 b1 _
            clear hs1
            go_wp2
            go_round
            case rel => exact ⟨k + 1, by omega, by go_num, by rw [hS.out, hN.out]⟩
            case measure => simp [intOf]; omega
          · obtain rfl : n = k := by omega
            have Y := Lib.hid (numV_ok Hc.out Hw.out (show (n : Int) ≤ (s.size : Int) - a by omega))
            clear hlt hkn hw1
            go_wp2
            refine bodyPost_ret (v := .tuple #[.agg #[.string s, .int .i64 (a + n), .int .i64 0], .int .i64 (be (cut s a n))]) (by simp [results, Try.results23, go_sem, c0, c1, c2, d0, d1, d2]) rfl ⟨by rw [Y.out, Int.toNat_natCast, Int.toNat_natCast], ?_⟩
            (repeat (first | (with_reducible exact Below.refl _ _) | ((with_reducible refine below_alloc ?_ ?_ _); · (first | omega | (simp; done) | (simp; omega))) | ((with_reducible refine below_setCell ?_ ?_ _); · (first | omega | (simp; done) | (simp; omega))) | (with_reducible refine Below.drew ?_) | (with_reducible refine below_drewN ?_ _) | ((with_reducible refine below_call (by assumption) ?_ ?_); · (first | omega | (simp; done) | (simp; omega)))))
      · have hl2 : (s.size : Int) - a < n := by omega
        go_enter Try.func23, Try.ntmps23
        go_wp2_with (first | (go_at_call 32; refine (checked_any _ _ _ _ hs).mono ?_; rintro e w1 ⟨rfl, hb1⟩; obtain ⟨hk1, hf1, hz1⟩ := bcellN (n := w.heap.size + 2) (by (try simp only [World.size_drew, World.size_alloc, World.size_setCell]); omega) hb1; have hz1_0 : w.heap.size < w1.heap.size := (by omega); have hz1_1 : w.heap.size + 1 < w1.heap.size := (by omega)) | (go_at_call 33; refine (isWidth_any _ _).mono ?_; rintro e w' ⟨rfl, rfl⟩) | (go_at_call 34; refine (failed_any _ _ _ _ _).mono ?_; rintro e w3 ⟨rfl, hb3⟩; obtain ⟨hk3, hf3, hz3⟩ := bcellN (n := w.heap.size + 2) (by (try simp only [World.size_drew, World.size_alloc, World.size_setCell]); omega) hb3; have hz3_0 : w.heap.size < w3.heap.size := (by omega); have hz3_1 : w.heap.size + 1 < w3.heap.size := (by omega)))
        refine bodyPost_ret (v := .tuple #[.agg #[.string s, .int .i64 a, .int .i64 3], .int .i64 0]) (by simp [results, Try.results23, go_sem, hk1, hk3]) rfl ⟨by rw [numV_cut Hc.out Hw.out hl2], ?_⟩
        (repeat (first | (with_reducible exact Below.refl _ _) | ((with_reducible refine below_alloc ?_ ?_ _); · (first | omega | (simp; done) | (simp; omega))) | ((with_reducible refine below_setCell ?_ ?_ _); · (first | omega | (simp; done) | (simp; omega))) | (with_reducible refine Below.drew ?_) | (with_reducible refine below_drewN ?_ _) | ((with_reducible refine below_call (by assumption) ?_ ?_); · (first | omega | (simp; done) | (simp; omega)))))
    · have hw' : wide n = false := by simpa using hw
      have hw1 : (!wide n) = true := by simp [hw']
      have Hw := Lib.hid hw'
      clear hw' hw
      go_enter Try.func23, Try.ntmps23
      go_wp2_with (first | (go_at_call 32; refine (checked_any _ _ _ _ hs).mono ?_; rintro e w1 ⟨rfl, hb1⟩; obtain ⟨hk1, hf1, hz1⟩ := bcellN (n := w.heap.size + 2) (by (try simp only [World.size_drew, World.size_alloc, World.size_setCell]); omega) hb1; have hz1_0 : w.heap.size < w1.heap.size := (by omega); have hz1_1 : w.heap.size + 1 < w1.heap.size := (by omega)) | (go_at_call 33; refine (isWidth_any _ _).mono ?_; rintro e w' ⟨rfl, rfl⟩) | (go_at_call 34; refine (failed_any _ _ _ _ _).mono ?_; rintro e w3 ⟨rfl, hb3⟩; obtain ⟨hk3, hf3, hz3⟩ := bcellN (n := w.heap.size + 2) (by (try simp only [World.size_drew, World.size_alloc, World.size_setCell]); omega) hb3; have hz3_0 : w.heap.size < w3.heap.size := (by omega); have hz3_1 : w.heap.size + 1 < w3.heap.size := (by omega)))
      refine bodyPost_ret (v := .tuple #[.agg #[.string s, .int .i64 a, .int .i64 2], .int .i64 0]) (by simp [results, Try.results23, go_sem, hk1, hk3]) rfl ⟨by rw [numV_arg Hc.out Hw.out], ?_⟩
      (repeat (first | (with_reducible exact Below.refl _ _) | ((with_reducible refine below_alloc ?_ ?_ _); · (first | omega | (simp; done) | (simp; omega))) | ((with_reducible refine below_setCell ?_ ?_ _); · (first | omega | (simp; done) | (simp; omega))) | (with_reducible refine Below.drew ?_) | (with_reducible refine below_drewN ?_ _) | ((with_reducible refine below_call (by assumption) ?_ ?_); · (first | omega | (simp; done) | (simp; omega)))))
  · have hc1 : (chk s a b != 0) = true := by simp [hc]
    go_enter Try.func23, Try.ntmps23
    go_wp2_with (go_at_call 32; refine (checked_any _ _ _ _ hs).mono ?_; rintro e w1 ⟨rfl, hb1⟩; obtain ⟨hk1, hf1, hz1⟩ := bcellN (n := w.heap.size + 2) (by (try simp only [World.size_drew, World.size_alloc, World.size_setCell]); omega) hb1; have hz1_0 : w.heap.size < w1.heap.size := (by omega); have hz1_1 : w.heap.size + 1 < w1.heap.size := (by omega))
    refine bodyPost_ret (v := .tuple #[.agg #[.string s, .int .i64 a, .int .i64 (chk s a b)], .int .i64 0]) (by simp [results, Try.results23, go_sem, hk1]) rfl ⟨by rw [numV_bad hc], ?_⟩
    (repeat (first | (with_reducible exact Below.refl _ _) | ((with_reducible refine below_alloc ?_ ?_ _); · (first | omega | (simp; done) | (simp; omega))) | ((with_reducible refine below_setCell ?_ ?_ _); · (first | omega | (simp; done) | (simp; omega))) | (with_reducible refine Below.drew ?_) | (with_reducible refine below_drewN ?_ _) | ((with_reducible refine below_call (by assumption) ?_ ?_); · (first | omega | (simp; done) | (simp; omega)))))
end Go.Proofs.Ytbaclfpkaobggaa
