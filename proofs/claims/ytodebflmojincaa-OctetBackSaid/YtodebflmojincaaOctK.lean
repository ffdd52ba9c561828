/- The contract of the document's Unpack. -/
import Derived.Test.YtodebflmojincaaOctJ
namespace Go.Proofs.Ytodebflmojincaa
open Go.RowKit
set_option linter.unusedVariables false
set_option linter.unusedSimpArgs false

set_option maxHeartbeats 1000000 in
theorem runpack_any (s : ByteArray) (m : Int) (w : World) (hs : s.size ≤ 281474976710656) :
    Calls Try.prog 31 #[.string s, .int .i64 m] w (RetS w (unpL s m) (unpE s m)) := by
  have hm : s.size ≤ maxLen := by unfold maxLen; omega
  have hY := Lib.hid (numV_0 s m)
  have hN := unpN_lt s
  obtain ⟨i0, hi, hz0, hz1, hz2⟩ := info_parts info_str
  go_enter Try.func31, Try.ntmps31
  go_wp2_with (first
    | (go_at_call 23; refine (ropen_any _ _).mono ?_; rintro e w1 ⟨rfl, hb1⟩)
    | (go_at_call 12; refine (rnum_any _ _ _ _ _ hm).mono ?_; rintro e w2 ⟨rfl, hb2⟩; rw [hY.out]))
  have hw1 : w.heap.size ≤ w1.heap.size := hb1.size
  have hw2 : w.heap.size ≤ w2.heap.size := Nat.le_trans hb1.size hb2.size
  have hR0 : Row3 (w2.alloc (.cells #[.string s, .int .i64 (unp s m 0).1, .int .i64 (unp s m 0).2.1] 23)) w2.heap.size (.string s) (.int .i64 (unp s m 0).1) (.int .i64 (unp s m 0).2.1) := by
    simp [Row3, go_sem]
  have hB0 : Below w.heap.size w (w2.alloc (.cells #[.string s, .int .i64 (unp s m 0).1, .int .i64 (unp s m 0).2.1] 23)) := by (repeat (first | (with_reducible exact Below.refl _ _) | ((with_reducible refine below_alloc ?_ ?_ _); · (first | omega | (simp; done) | (simp; omega))) | ((with_reducible refine below_setCell ?_ ?_ _); · (first | omega | (simp; done) | (simp; omega))) | (with_reducible refine Below.drew ?_) | ((with_reducible refine below_call (by assumption) ?_ ?_); · (first | omega | (simp; done) | (simp; omega)))))
  go_loopw [8, 9] (fun v i wr => ∃ k : Nat, k ≤ unpN s ∧ i = .int .i64 k ∧ Row3 wr w2.heap.size (.string s) (.int .i64 (unp s m k).1) (.int .i64 (unp s m k).2.1) ∧ OwnS wr (w2.heap.size + 1) v (unp s m k).2.2 ∧ Below w.heap.size w wr) (fun _ i _ => unpN s - (intOf i).toNat)
  case atStart => exact ⟨0, by omega, rfl, hR0, OwnS.nil _ _, hB0⟩
  case round =>
    obtain ⟨k, hk, rfl, hR, ho, hB⟩ := hrel
    clear hR0 hB0
    have hwr := hR.lt
    obtain ⟨⟨c0, c1, c2⟩, f0, f1, f2⟩ := id hR
    have HO := Lib.hid ho
    have hll := unp_len s m k
    clear ho
    by_cases hgo : k < unpN s ∧ (unp s m k).2.1 = 0
    · obtain ⟨hlt, hz⟩ := hgo
      have hlt' : (k : Int) < unpN s := by omega
      have hE1 : ((unp s m k).2.1 == 0) = true := by simp [hz]
      have HT := Lib.hid (textV_k s m k)
      have HZ := Lib.hid hz
      have hls : Hid ((unp s m (k + 1)).2.2 = (unp s m k).2.2 ++ [textS s (unp s m k).1 (unp s m k).2.1 m]) := rfl
      generalize textS s (unp s m k).1 (unp s m k).2.1 m = tx at HT hls
      clear hz
      go_wp2_with (first
        | (go_at_call 14; refine (rtext_any _ _ _ _ _ hs).mono ?_; rintro e w4 ⟨rfl, hb4⟩; rw [HT.out]; obtain ⟨hk4, hf4, hz4⟩ := bcellAt hwr hb4)
        | (at_builtin; (refine wpList_append_own _ rfl _ _ 54 rfl (w2.heap.size + 1) 9 i0 (.string ⟨#[]⟩) 1 16 Try.underlying54 hi hz0 hz1 hz2 rfl (by decide) _ (unp s m k).2.2.length ((unp s m k).2.2.map Value.string) rfl (((ownsRow_setCell_below (ownsRow_setCell_below (ownsRow_setCell_below (HO.out.call hb4) (Nat.lt_succ_self _) _) (Nat.lt_succ_self _) _) (Nat.lt_succ_self _) _).alloc _).alloc _) ⟨w4.heap.size + 1, 0, none⟩ 1 1 [Value.string tx] rfl rfl ?_ (by simp [Value.oneCell']) (by unfold maxLen; omega) (by omega) ?_ ?_; (· intro j u hj; have hq := (World.ownsRow_lit (base := 0) (e := 9) (size := 1) ((((w4.setCell ⟨w2.heap.size, 0, none⟩ (.string s)).setCell ⟨w2.heap.size, 1, none⟩ (.int .i64 (unp s m (k + 1)).1)).setCell ⟨w2.heap.size, 2, none⟩ (.int .i64 (unp s m (k + 1)).2.1)).alloc (.cells #[.string s, .int .i64 (unp s m (k + 1)).1, .int .i64 (unp s m (k + 1)).2.1] 23)) #[Value.string tx] 1 (Nat.zero_le _) (by unfold maxLen; omega) rfl).cells rfl j u hj; simp only [World.size_setCell, World.size_alloc] at hq; exact hq); (· have := hb4.size; first | omega | (simp; omega)); intro v5 w5 hown hgr _)))
      have hnb : some w2.heap.size ≠ Value.ownBlock u8 := fun e => by
        have := (World.ownsRow.lt HO.out w2.heap.size e.symm).1
        omega
      have hB4 : Below w.heap.size w ((((w4.setCell ⟨w2.heap.size, 0, none⟩ (.string s)).setCell ⟨w2.heap.size, 1, none⟩ (.int .i64 (unp s m (k + 1)).1)).setCell ⟨w2.heap.size, 2, none⟩ (.int .i64 (unp s m (k + 1)).2.1)).alloc (.cells #[.string s, .int .i64 (unp s m (k + 1)).1, .int .i64 (unp s m (k + 1)).2.1] 23)) := by
        have hwx := hB.size
        have hwy := hb4.size
        (repeat (first | (with_reducible exact Below.refl _ _) | ((with_reducible refine below_alloc ?_ ?_ _); · (first | omega | (simp; done) | (simp; omega))) | ((with_reducible refine below_setCell ?_ ?_ _); · (first | omega | (simp; done) | (simp; omega))) | (with_reducible refine Below.drew ?_) | ((with_reducible refine below_call (by assumption) ?_ ?_); · (first | omega | (simp; done) | (simp; omega)))))
      have hR4 := ((((hR.call hb4 hwr).set0 (.string s)).set1 (.int .i64 (unp s m (k + 1)).1)).set2 (.int .i64 (unp s m (k + 1)).2.1)).alloc (by simp only [World.size_setCell]; exact hz4) (.cells #[.string s, .int .i64 (unp s m (k + 1)).1, .int .i64 (unp s m (k + 1)).2.1] 23)
      go_roundw
      case rel => exact ⟨k + 1, by omega, by go_num, (hR4.alloc (by simp only [World.size_alloc, World.size_setCell]; omega) _).grown hgr (by simp only [World.size_alloc, World.size_setCell]; omega) hnb, (by
        show w5.ownsRow _ _ _ _ (unp s m (k + 1)).2.2.length ((unp s m (k + 1)).2.2.map Value.string)
        rw [hls.out, List.length_append, List.map_append]; exact hown), (hB4.alloc hB4.size _).grown hgr (by simp only [World.size_alloc]; have := hB4.size; simp only [World.size_alloc] at this; omega) (fun j hj => by
          have := (World.ownsRow.lt HO.out j hj).1; omega)⟩
      case measure => simp [intOf]; omega
    · have HE : Hid (doneN s (unp s m k).1 (unp s m k).2.1 = unpE s m) := by
        show _ = _
        by_cases hlt : k < unpN s
        · have hne : (unp s m k).2.1 ≠ 0 := fun e => hgo ⟨hlt, e⟩
          rw [doneN_ne hne, (unpE_bad hk hne).1]
        · obtain rfl : k = unpN s := by omega
          rfl
      have HL : Hid (unpL s m = if unpE s m = 0 then (unp s m k).2.2 else []) := by
        show _ = _
        by_cases hlt : k < unpN s
        · have hne : (unp s m k).2.1 ≠ 0 := fun e => hgo ⟨hlt, e⟩
          rw [(unpE_bad hk hne).2, if_neg]
          rw [(unpE_bad hk hne).1]; exact hne
        · obtain rfl : k = unpN s := by omega
          rfl
      by_cases hlt : k < unpN s
      · have hne : (unp s m k).2.1 ≠ 0 := fun e => hgo ⟨hlt, e⟩
        have hE1 : ((unp s m k).2.1 == 0) = false := by simp [hne]
        have hlt' : (k : Int) < unpN s := by omega
        have hz : unpE s m ≠ 0 := by rw [(unpE_bad hk hne).1]; exact hne
        have hz1 : (unpE s m != 0) = true := by simp [hz]
        have HZ := Lib.hid hz
        clear hgo hne hz
        have tok1 : True := trivial
        go_wp2_with (first | (go_at_call 21; have _t := tok1; refine (rdone_any _ _ _ _ hm).mono ?_; rintro e w4 ⟨rfl, hb4⟩; rw [HE.out]; obtain ⟨hk4, hf4, hz4⟩ := bcellAt hwr hb4; clear tok1 _t) | (go_at_call 21; refine (rdone_any _ _ _ _ hm).mono ?_; rintro e w6 ⟨rfl, hb6⟩; rw [HE.out]))
        go_ret2
        rw [HL.out, if_neg HZ.out]
        exact RetS.mk (OwnS.nil _ _) (((hB.trans (hb4.mono hB.size))).trans (hb6.mono (Nat.le_trans hB.size hb4.size)))
      · have hge : (unpN s : Int) ≤ k := by omega
        clear hgo hk
        by_cases hz : unpE s m = 0
        · have hz1 : (unpE s m != 0) = false := by simp [hz]
          have HZ := Lib.hid hz
          clear hz
          go_wp2_with (go_at_call 21; refine (rdone_any _ _ _ _ hm).mono ?_; rintro e w4 ⟨rfl, hb4⟩; rw [HE.out]; obtain ⟨hk4, hf4, hz4⟩ := bcellAt hwr hb4)
          go_ret2
          rw [HL.out, if_pos HZ.out, HZ.out]
          exact RetS.mk ((HO.out.call hb4).mono (by omega)) (hB.trans (hb4.mono hB.size))
        · have hz1 : (unpE s m != 0) = true := by simp [hz]
          have HZ := Lib.hid hz
          clear hz
          have tok1 : True := trivial
          go_wp2_with (first | (go_at_call 21; have _t := tok1; refine (rdone_any _ _ _ _ hm).mono ?_; rintro e w4 ⟨rfl, hb4⟩; rw [HE.out]; obtain ⟨hk4, hf4, hz4⟩ := bcellAt hwr hb4; clear tok1 _t) | (go_at_call 21; refine (rdone_any _ _ _ _ hm).mono ?_; rintro e w6 ⟨rfl, hb6⟩; rw [HE.out]))
          go_ret2
          rw [HL.out, if_neg HZ.out]
          exact RetS.mk (OwnS.nil _ _) (((hB.trans (hb4.mono hB.size))).trans (hb6.mono (Nat.le_trans hB.size hb4.size)))
end Go.Proofs.Ytodebflmojincaa
