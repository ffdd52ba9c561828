/- The contracts of Unpack: octet's and the document's. -/
import Derived.Test.YtodebflmojincaaKitS
import Derived.Test.YtodebflmojincaaOctF
import Derived.Deep.QuietTactic
import Derived.BigQuiet
namespace Go.Proofs.Ytodebflmojincaa
open Go.RowKit
set_option linter.unusedVariables false
set_option linter.unusedSimpArgs false

/-- the Read, and the texts, when k have been read -/
def unp (s : ByteArray) (m : Int) : Nat → Int × Int × List ByteArray
  | 0 => (numA s 0 0 1, numB s 0 0 1, [])
  | k + 1 => (textA s (unp s m k).1 (unp s m k).2.1 m, textB s (unp s m k).1 (unp s m k).2.1 m, (unp s m k).2.2 ++ [textS s (unp s m k).1 (unp s m k).2.1 m])
def unpN (s : ByteArray) : Nat := (numN s 0 0 1).toNat
def unpE (s : ByteArray) (m : Int) : Int := doneN s (unp s m (unpN s)).1 (unp s m (unpN s)).2.1
def unpL (s : ByteArray) (m : Int) : List ByteArray := if unpE s m = 0 then (unp s m (unpN s)).2.2 else []
theorem textB_zero {s : ByteArray} {a b m : Int} (h : textB s a b m = 0) : chk s a b = 0 ∧ chk s (textA s a b m) 0 = 0 := by
  by_cases hc : chk s a b = 0
  · refine ⟨hc, ?_⟩
    obtain ⟨rfl, h0, h1⟩ := chk_zero hc
    have ho : textOk s a 0 m = true := by
      unfold textB at h
      rw [if_neg (by simp [hc])] at h
      split at h
      · cases h
      · split at h
        · cases h
        · split at h
          · cases h
          · simp only [textOk, decide_eq_true_eq]; exact ⟨hc, by omega, by omega, by omega⟩
    have ho' := ho
    simp only [textOk, decide_eq_true_eq] at ho'
    unfold textA
    rw [if_pos ho]
    exact chk_ok (by omega) (by omega)
  · unfold textB at h; rw [if_pos hc] at h; exact absurd h hc
theorem textB_ne {s : ByteArray} {a b m : Int} (h : b ≠ 0) : textB s a b m = b := by
  have hc : chk s a b = b := chk_bad h
  simp [textB, hc, h]
theorem unp_stay {s : ByteArray} {m : Int} {k : Nat} (h : (unp s m k).2.1 ≠ 0) : ∀ n, k ≤ n → (unp s m n).2.1 = (unp s m k).2.1 := by
  intro n hn
  obtain ⟨j, rfl⟩ : ∃ j, n = k + j := ⟨n - k, by omega⟩
  induction j with
  | zero => rfl
  | succ j ih =>
    have h1 := ih (by omega)
    show textB s (unp s m (k + j)).1 (unp s m (k + j)).2.1 m = _
    rw [textB_ne (by rw [h1]; exact h), h1]
theorem doneN_ne {s : ByteArray} {a b : Int} (h : b ≠ 0) : doneN s a b = b := by
  have hc : chk s a b = b := chk_bad h
  simp [doneN, hc, h]
theorem unpE_bad {s : ByteArray} {m : Int} {k : Nat} (hk : k ≤ unpN s) (h : (unp s m k).2.1 ≠ 0) : unpE s m = (unp s m k).2.1 ∧ unpL s m = [] := by
  have e : unpE s m = (unp s m k).2.1 := by
    unfold unpE
    have h1 := unp_stay h _ hk
    rw [doneN_ne (by rw [h1]; exact h), h1]
  exact ⟨e, by unfold unpL; rw [if_neg (by rw [e]; exact h)]⟩
theorem unp_len (s : ByteArray) (m : Int) (k : Nat) : (unp s m k).2.2.length = k := by
  induction k with
  | zero => rfl
  | succ k ih => simp [unp, ih]
theorem unpN_lt (s : ByteArray) : unpN s < 256 := by
  unfold unpN numN
  split
  · rename_i h
    have h1 := be_lt (cut s (0 : Int).toNat (1 : Int).toNat)
    rw [cut_len (by simp; omega)] at h1
    have h2 := be_nonneg (cut s (0 : Int).toNat (1 : Int).toNat)
    simp at h1 h2 ⊢
    omega
  · decide
theorem numN_unpN (s : ByteArray) : numN s 0 0 1 = (unpN s : Int) := by
  have : 0 ≤ numN s 0 0 1 := by
    unfold numN; split
    · exact be_nonneg _
    · decide
  unfold unpN; omega
theorem num0_ok {s : ByteArray} (h : numB s 0 0 1 = 0) : chk s (numA s 0 0 1) 0 = 0 := by
  have hc : chk s 0 0 = 0 := chk_ok (by omega) (by omega)
  by_cases hl : (1 : Int) ≤ s.size - 0
  · unfold numA; rw [if_pos ⟨hc, by decide, hl⟩]; exact chk_ok (by omega) (by omega)
  · unfold numA; rw [if_neg (by omega)]; exact hc
theorem num0_bad {s : ByteArray} (h : numB s 0 0 1 ≠ 0) : unpN s = 0 := by
  unfold unpN numN
  rw [if_neg]; rfl
  intro ⟨h1, h2, h3⟩
  apply h
  unfold numB
  rw [if_neg (by simp [h1]), if_neg (by simp [h2]), if_neg (by omega)]
theorem numV_0 (s : ByteArray) (m : Int) : numV s 0 0 1 = .tuple #[.agg #[.string s, .int .i64 (unp s m 0).1, .int .i64 (unp s m 0).2.1], .int .i64 (unpN s : Int)] := by
  unfold numV; rw [numN_unpN]; rfl
theorem textV_k (s : ByteArray) (m : Int) (k : Nat) : textV s (unp s m k).1 (unp s m k).2.1 m = .tuple #[.agg #[.string s, .int .i64 (unp s m (k + 1)).1, .int .i64 (unp s m (k + 1)).2.1], .string (textS s (unp s m k).1 (unp s m k).2.1 m)] := rfl

set_option maxHeartbeats 1000000 in
theorem unpack_any (s : ByteArray) (m : Int) (w : World) (hs : s.size ≤ 281474976710656) :
    Calls Try.prog 30 #[.string s, .int .i64 m] w (RetS w (unpL s m) (unpE s m)) := by
  have hm : s.size ≤ maxLen := by unfold maxLen; omega
  have hY := Lib.hid (numV_0 s m)
  have hN := unpN_lt s
  obtain ⟨i0, hi, hz0, hz1, hz2⟩ := info_parts info_str
  go_enter Try.func30, Try.ntmps30
  go_wp2_with (first
    | (go_at_call 22; refine (open_any _ _).mono ?_; rintro e w1 ⟨rfl, hb1⟩)
    | (go_at_call 11; refine (num_any _ _ _ _ _ hm).mono ?_; rintro e w2 ⟨rfl, hb2⟩; rw [hY.out]))
  have hw1 : w.heap.size ≤ w1.heap.size := hb1.size
  have hw2 : w.heap.size ≤ w2.heap.size := Nat.le_trans hb1.size hb2.size
  have hR0 : Row3 (w2.alloc (.cells #[.string s, .int .i64 (unp s m 0).1, .int .i64 (unp s m 0).2.1] 27)) w2.heap.size (.string s) (.int .i64 (unp s m 0).1) (.int .i64 (unp s m 0).2.1) := by
    simp [Row3, go_sem]
  have hB0 : Below w.heap.size w (w2.alloc (.cells #[.string s, .int .i64 (unp s m 0).1, .int .i64 (unp s m 0).2.1] 27)) := by (repeat (first | (with_reducible exact Below.refl _ _) | ((with_reducible refine below_alloc ?_ ?_ _); · (first | omega | (simp; done) | (simp; omega))) | ((with_reducible refine below_setCell ?_ ?_ _); · (first | omega | (simp; done) | (simp; omega))) | (with_reducible refine Below.drew ?_) | ((with_reducible refine below_call (by assumption) ?_ ?_); · (first | omega | (simp; done) | (simp; omega)))))
  go_loopw [8, 18] (fun v i wr => ∃ k : Nat, k ≤ unpN s ∧ i = .int .i64 k ∧ (k = 0 ∨ (unp s m k).2.1 = 0) ∧ Row3 wr w2.heap.size (.string s) (.int .i64 (unp s m k).1) (.int .i64 (unp s m k).2.1) ∧ OwnS wr (w2.heap.size + 1) v (unp s m k).2.2 ∧ Below w.heap.size w wr) (fun _ i _ => unpN s - (intOf i).toNat)
  case atStart => exact ⟨0, by omega, rfl, .inl rfl, hR0, OwnS.nil _ _, hB0⟩
  case round =>
    obtain ⟨k, hk, rfl, hz, hR, ho, hB⟩ := hrel
    clear hR0 hB0
    have hwr := hR.lt
    obtain ⟨⟨c0, c1, c2⟩, f0, f1, f2⟩ := id hR
    by_cases hlt : k < unpN s
    · have hlt' : (k : Int) < unpN s := by omega
      have hB0 : (unp s m k).2.1 = 0 := by
        rcases hz with rfl | hz
        · exact Classical.byContradiction fun h => by have := num0_bad (s := s) h; omega
        · exact hz
      have HT := Lib.hid (textV_k s m k)
      have HO := Lib.hid ho
      have hll := unp_len s m k
      have HZ := Lib.hid hB0
      clear ho hz hB0
      by_cases hE : (unp s m (k + 1)).2.1 = 0
      · have hE1 : ((unp s m (k + 1)).2.1 != 0) = false := by simp [hE]
        have HE := Lib.hid hE
        clear hE
        have hls : Hid ((unp s m (k + 1)).2.2 = (unp s m k).2.2 ++ [textS s (unp s m k).1 (unp s m k).2.1 m]) := rfl
        generalize textS s (unp s m k).1 (unp s m k).2.1 m = tx at HT hls
        go_wp2_with (first
          | (go_at_call 13; refine (text_any _ _ _ _ _ hs).mono ?_; rintro e w4 ⟨rfl, hb4⟩; rw [HT.out]; obtain ⟨hk4, hf4, hz4⟩ := bcellAt hwr hb4)
          | (at_builtin; (refine wpList_append_own _ rfl _ _ 54 rfl (w2.heap.size + 1) 9 i0 (.string ⟨#[]⟩) 1 16 Try.underlying54 hi hz0 hz1 hz2 rfl (by decide) _ (unp s m k).2.2.length ((unp s m k).2.2.map Value.string) rfl ((ownsRow_setCell_below (ownsRow_setCell_below (ownsRow_setCell_below (HO.out.call hb4) (Nat.lt_succ_self _) _) (Nat.lt_succ_self _) _) (Nat.lt_succ_self _) _).alloc _) ⟨w4.heap.size, 0, none⟩ 1 1 [Value.string tx] rfl rfl ?_ (by simp [Value.oneCell']) (by unfold maxLen; omega) (by omega) ?_ ?_; (· intro j u hj; have hq := (World.ownsRow_lit (base := 0) (e := 9) (size := 1) (((w4.setCell ⟨w2.heap.size, 0, none⟩ (.string s)).setCell ⟨w2.heap.size, 1, none⟩ (.int .i64 (unp s m (k + 1)).1)).setCell ⟨w2.heap.size, 2, none⟩ (.int .i64 (unp s m (k + 1)).2.1)) #[Value.string tx] 1 (Nat.zero_le _) (by unfold maxLen; omega) rfl).cells rfl j u hj; simp only [World.size_setCell] at hq; exact hq); (· have := hb4.size; first | omega | (simp; omega)); intro v5 w5 hown hgr _)))
        have hnb : some w2.heap.size ≠ Value.ownBlock u8 := fun e => by
          have := (World.ownsRow.lt HO.out w2.heap.size e.symm).1
          omega
        have hB4 : Below w.heap.size w (((w4.setCell ⟨w2.heap.size, 0, none⟩ (.string s)).setCell ⟨w2.heap.size, 1, none⟩ (.int .i64 (unp s m (k + 1)).1)).setCell ⟨w2.heap.size, 2, none⟩ (.int .i64 (unp s m (k + 1)).2.1)) := by
          have hwx := hB.size
          (repeat (first | (with_reducible exact Below.refl _ _) | ((with_reducible refine below_alloc ?_ ?_ _); · (first | omega | (simp; done) | (simp; omega))) | ((with_reducible refine below_setCell ?_ ?_ _); · (first | omega | (simp; done) | (simp; omega))) | (with_reducible refine Below.drew ?_) | ((with_reducible refine below_call (by assumption) ?_ ?_); · (first | omega | (simp; done) | (simp; omega)))))
        have hR4 := (((hR.call hb4 hwr).set0 (.string s)).set1 (.int .i64 (unp s m (k + 1)).1)).set2 (.int .i64 (unp s m (k + 1)).2.1)
        go_roundw
        case rel => exact ⟨k + 1, by omega, by go_num, .inr HE.out, (hR4.alloc (by simp only [World.size_setCell]; exact hz4) _).grown hgr (by simp only [World.size_alloc, World.size_setCell]; omega) hnb, (by
          show w5.ownsRow _ _ _ _ (unp s m (k + 1)).2.2.length ((unp s m (k + 1)).2.2.map Value.string)
          rw [hls.out, List.length_append, List.map_append]; exact hown), (hB4.alloc hB4.size _).grown hgr (by simp only [World.size_alloc]; exact Nat.le_succ_of_le hB4.size) (fun j hj => by
            have := (World.ownsRow.lt HO.out j hj).1; omega)⟩
        case measure => simp [intOf]; omega
      · have hE1 : ((unp s m (k + 1)).2.1 != 0) = true := by simp [hE]
        have HE := Lib.hid (unpE_bad (show k + 1 ≤ unpN s by omega) hE)
        clear hE
        go_wp2_with (go_at_call 13; refine (text_any _ _ _ _ _ hs).mono ?_; rintro e w4 ⟨rfl, hb4⟩; rw [HT.out]; obtain ⟨hk4, hf4, hz4⟩ := bcellAt hwr hb4)
        go_quiet (fail)
        go_wp2
        go_ret2
        rw [HE.out.1, HE.out.2]
        refine RetS.mk (OwnS.nil _ _) ?_
        have hB4 : Below w.heap.size w (((w4.setCell ⟨w2.heap.size, 0, none⟩ (.string s)).setCell ⟨w2.heap.size, 1, none⟩ (.int .i64 (unp s m (k + 1)).1)).setCell ⟨w2.heap.size, 2, none⟩ (.int .i64 (unp s m (k + 1)).2.1)) := by
          have hwx := hB.size
          (repeat (first | (with_reducible exact Below.refl _ _) | ((with_reducible refine below_alloc ?_ ?_ _); · (first | omega | (simp; done) | (simp; omega))) | ((with_reducible refine below_setCell ?_ ?_ _); · (first | omega | (simp; done) | (simp; omega))) | (with_reducible refine Below.drew ?_) | ((with_reducible refine below_call (by assumption) ?_ ?_); · (first | omega | (simp; done) | (simp; omega)))))
        exact ⟨hB4.os, hB4.tape, hB4.output, hB4.size, hB4.block⟩
    · have hke : k = unpN s := by omega
      have HE : Hid (doneN s (unp s m k).1 (unp s m k).2.1 = unpE s m) := by subst hke; rfl
      have HL : Hid (unpL s m = if unpE s m = 0 then (unp s m k).2.2 else []) := by subst hke; rfl
      have HO := Lib.hid ho
      have hge : (unpN s : Int) ≤ k := by omega
      clear hz ho hke hlt hk
      by_cases hz : unpE s m = 0
      · have hz1 : (unpE s m != 0) = false := by simp [hz]
        have HZ := Lib.hid hz
        clear hz
        go_wp2_with (go_at_call 20; refine (done_any _ _ _ _ hm).mono ?_; rintro e w4 ⟨rfl, hb4⟩; rw [HE.out])
        go_ret2
        rw [HL.out, if_pos HZ.out, HZ.out]
        exact RetS.mk ((HO.out.call hb4).mono (by omega)) (hB.trans (hb4.mono hB.size))
      · have hz1 : (unpE s m != 0) = true := by simp [hz]
        have HZ := Lib.hid hz
        clear hz
        go_wp2_with (go_at_call 20; refine (done_any _ _ _ _ hm).mono ?_; rintro e w4 ⟨rfl, hb4⟩; rw [HE.out])
        go_ret2
        rw [HL.out, if_neg HZ.out]
        exact RetS.mk (OwnS.nil _ _) (hB.trans (hb4.mono hB.size))
end Go.Proofs.Ytodebflmojincaa
