/- LevelCalm: with nothing to do a level falls to 0, one by one, and with a full load it is 3 at once: the statement holds for every input. No condition. -/
import Derived.Test.YtjnonngnkkdmdaaL16W
import Derived.Test.YtjnonngnkkdmdaaLawOpen16
import Derived.Test.YtjnonngnkkdmdaaKitTail
import Derived.Deep.DeepCutAuto
namespace Go.Proofs.Ytjnonngnkkdmdaa
open Go.RowKit Go.ChangeShapes Go.WideShapes Go.ChangeAt
set_option linter.unusedVariables false
set_option linter.unusedSimpArgs false

/-- the usual conf with another hold -/
abbrev calmC (h : Int) : Lc := ⟨50, 75, 90, 40, 60, 80, h⟩
theorem calm_ok {h : Int} (h0 : 0 ≤ h) (h1 : h ≤ 20) : chkLv (calmC h) = 0 := by
  unfold chkLv
  have e : rngL (calmC h) = true := by
    unfold rngL
    simp only [Bool.and_eq_true, inL_iff]
    omega
  rw [e, if_neg (by decide), if_neg (show ¬ ordL (calmC h) = false from by rw [show ordL (calmC h) = true from rfl]; decide)]
/-- what the law has in memory: a conf, a level -/
def Cm (w W : World) (bd bs : Nat) (h : Int) (st : Ls) : Prop := Cf7 W bd (calmC h) ∧ Rs3 W bs st ∧ Below w.heap.size w W ∧ w.heap.size ≤ bd ∧ bd < bs
theorem Cm.call {w W w1 : World} {bd bs : Nat} {h : Int} {st : Ls} (H : Cm w W bd bs h st) (hb : Below W.heap.size W w1) : Cm w w1 bd bs h st :=
  ⟨H.1.call hb, H.2.1.call hb, H.2.2.1.trans (hb.mono H.2.2.1.size), H.2.2.2.1, H.2.2.2.2⟩
theorem Cm.put {w W : World} {bd bs : Nat} {h : Int} {st : Ls} (H : Cm w W bd bs h st) (s2 : Ls) : Cm w (((W.setCell ⟨bs, 0, none⟩ (.int .i64 s2.l)).setCell ⟨bs, 1, none⟩ (.int .i64 s2.s)).setCell ⟨bs, 2, none⟩ (.int .i64 s2.w)) bd bs h s2 := by
  obtain ⟨X, ⟨⟨h0, h1, h2⟩, f0, f1, f2⟩, hB, h3, h4⟩ := H
  have hd : bd ≠ bs := by omega
  have hd2 : bs ≠ bd := by omega
  obtain ⟨x0, x1, x2, x3, x4, x5, x6⟩ := X
  refine ⟨by simp [Cf7, go_sem, x0, x1, x2, x3, x4, x5, x6, hd, hd2], by simp [Rs3, St3, go_sem, h0, h1, h2, f0, f1, f2], ?_, h3, h4⟩
  exact below_setCell (by show w.heap.size ≤ bs; omega) (below_setCell (by show w.heap.size ≤ bs; omega) (below_setCell (by show w.heap.size ≤ bs; omega) hB _) _) _
theorem calm_next {h : Int} (hc : chkLv (calmC h) = 0) {st : Ls} {t low : Int} (H : LowIs st t low) (ht : 0 ≤ t) (ht2 : t < 1099511627776) {n : Int} (hn : 0 ≤ n) : ∃ low', LowIs (stpL (calmC h) st n (t + 1)) (t + 1) low' := by
  have hE := low_held H ht ht2 (calmC h) hc n hn
  exact ⟨_, (low_step (n := min 100 n) hc H ht ht2 (x := stpL (calmC h) st n (t + 1)) hE.symm).1⟩
theorem calm_full {h : Int} (hc : chkLv (calmC h) = 0) {st : Ls} {t low : Int} (H : LowIs st t low) (ht : 0 ≤ t) (ht2 : t < 1099511627776) : (stpL (calmC h) st 100 (t + 1)).l = 3 := by
  rw [low_held H ht ht2 (calmC h) hc 100 (by decide)]
  exact full_step hc H.1 _
theorem calm_down {h : Int} (hc : chkLv (calmC h) = 0) {st : Ls} {t low M : Int} (H : LowIs st t low) (ht : 0 ≤ t) (ht2 : t < 1099511627776) (hm : mesL (calmC h) st t ≤ max 0 M) : mesL (calmC h) (stpL (calmC h) st 0 (t + 1)) (t + 1) ≤ max 0 (M - 1) := by
  rw [low_held H ht ht2 (calmC h) hc 0 (Int.le_refl _), show min (100 : Int) 0 = 0 by decide]
  have := calm_step hc (show (0 : Int) < (calmC h).d0 by show (0 : Int) < 40; decide) H ht
  omega
theorem st3_other {W : World} {b d : Nat} {st : Ls} (h : St3 W b st) (hd : d ≠ b) (u0 u1 u2 : Value) : St3 (((W.setCell ⟨d, 0, none⟩ u0).setCell ⟨d, 1, none⟩ u1).setCell ⟨d, 2, none⟩ u2) b st := by
  obtain ⟨h0, h1, h2⟩ := h
  have hd2 : b ≠ d := fun e => hd e.symm
  simp [St3, go_sem, h0, h1, h2, hd, hd2]
theorem all_0 : allL 0 0 = true := by decide
theorem all_3 : allL 3 0 = false := by decide
set_option maxRecDepth 100000 in
set_option maxHeartbeats 16000000 in
theorem lcalm_walk (h0 : Int) (v : Value) (l : List Int) (w : World) (hh : 0 ≤ h0 ∧ h0 ≤ 255) (hv : IsIk .u8 w v l) (h8 : ∀ n ∈ l, 0 ≤ n ∧ n ≤ 255) :
    Calls Try.prog 6 #[.int .u8 h0, v] w fun e w' => e = .returned (.bool true) ∧ Below w.heap.size w w' := by
  have aw := Lib.hid (fun W => awake_any W)
  have cS := Lib.hid (fun c st n t W => lpstep_any c st n t W)
  have cN := Lib.hid (fun W => lpnew_any W)
  have cU := Lib.hid (fun W => lpusual_any W)
  have cA := Lib.hid (fun W => lpallows_any 0 0 W)
  have cB := Lib.hid (fun W => lpallows_any 3 0 W)
  rw [all_0] at cA
  rw [all_3] at cB
  have H8 := Lib.hid h8
  obtain ⟨p, cap, rfl, hp⟩ := hv
  have HP := Lib.hid hp
  clear hp h8
  simp only [cfV, lsV] at *
  by_cases hl : l.length ≤ 60
  case neg =>
    have hl' : (60 : Int) < l.length := by omega
    clear hl
    go_enter Try.func6, Try.ntmps6
    go_wp2_with fail
    refine (aw.out _).mono ?_; rintro e w1 ⟨rfl, hb1⟩
    go_wp2
    go_ret
    exact ⟨rfl, by (repeat (first | (with_reducible exact Below.refl _ _) | ((with_reducible refine below_alloc ?_ ?_ _); · (first | omega | (simp; done) | (simp; omega))) | ((with_reducible refine below_setCell ?_ ?_ _); · (first | omega | (simp; done) | (simp; omega))) | (with_reducible refine Below.drew ?_) | (with_reducible refine below_drewN ?_ _) | ((with_reducible refine below_call (by assumption) ?_ ?_); · (first | omega | (simp; done) | (simp; omega)))))⟩
  have hl' : ¬ (60 : Int) < l.length := by omega
  have htm : h0.tmod 21 = h0 % 21 := Int.tmod_eq_emod_of_nonneg hh.1
  have hq : 0 ≤ h0 % 21 ∧ h0 % 21 ≤ 20 := by omega
  obtain ⟨h, hH⟩ : ∃ h, h = h0 % 21 := ⟨_, rfl⟩
  rw [← hH] at htm hq
  have hw1 : IntKind.u8.wrap h = h := by rw [IntKind.wrap_u8]; omega
  have hw2 : IntKind.i64.wrap h = h := IntWalk.i64_in _ (by omega)
  have HC := Lib.hid (calm_ok hq.1 hq.2)
  go_enter Try.func6, Try.ntmps6
  go_wp2_with fail
  refine (cU.out _).mono ?_; rintro e w1 ⟨rfl, hb1⟩
  go_upto_region 5 with fail
  rw [← hH]
  clear hH htm
  have B1 : Below w.heap.size w w1 := by (repeat (first | (with_reducible exact Below.refl _ _) | ((with_reducible refine below_alloc ?_ ?_ _); · (first | omega | (simp; done) | (simp; omega))) | ((with_reducible refine below_setCell ?_ ?_ _); · (first | omega | (simp; done) | (simp; omega))) | (with_reducible refine Below.drew ?_) | (with_reducible refine below_drewN ?_ _) | ((with_reducible refine below_call (by assumption) ?_ ?_); · (first | omega | (simp; done) | (simp; omega)))))
  refine gen_world (F := fun W => Cf7 W w1.heap.size (calmC h) ∧ Below w.heap.size w W) ⟨by simp [Cf7, calmC, usuLv, go_sem], below_alloc B1.size B1 _⟩ (fun W2 hF => ?_)
  have hbd := B1.size
  generalize w1.heap.size = bd at hF hbd ⊢
  obtain ⟨X, hB⟩ := hF
  clear B1 hb1
  go_wp2_with fail
  refine (cN.out _).mono ?_; rintro e w3 ⟨rfl, hb3⟩
  have X3 := X.call hb3
  have hlt := X3.lt
  have B3 := hB.trans (hb3.mono hB.size)
  go_upto_region 6 with fail
  refine gen_world (F := fun W => Cm w W bd w3.heap.size h newLv) ⟨X3.call (below_alloc (Nat.le_refl _) (Below.refl _ _) _), by simp [Rs3, St3, newLv, go_sem], below_alloc B3.size B3 _, hbd, hlt⟩ (fun wt hF => ?_)
  generalize w3.heap.size = bs at hF ⊢
  have HT := Lib.hid hF
  clear X X3 B3 hb3 hB hlt hF
  go_wp2
  go_loopw [7, 8] (fun t i wr => ∃ (k : Nat) (low : Int) (st : Ls), t = .int .i64 k ∧ i = .int .i64 k ∧ k ≤ l.length ∧ Hid (LowIs st k low) ∧ Hid (Cm w wr bd bs h st)) (fun _ i _ => l.length - (intOf i).toNat)
  case atStart => exact ⟨0, 0, newLv, rfl, rfl, Nat.zero_le _, Lib.hid low_new, HT⟩
  case round =>
    clear HT
    obtain ⟨k, low, st, rfl, rfl, hk, HL, HM⟩ := hrel
    by_cases hlt : k < l.length
    · have hlt' : (k : Int) < l.length := by omega
      obtain ⟨b, off, rfl, d⟩ := HP.out k hlt
      have hbw : b < w.heap.size := World.block_lt_of_cell? _ _ d
      have hn := H8.out _ (List.getElem_mem hlt)
      generalize l[k] = n at d hn
      have hkt : (0 : Int) ≤ k := by omega
      have hkt2 : (k : Int) < 1099511627776 := by omega
      have hNX := Lib.hid (calm_next HC.out HL.out hkt hkt2 hn.1)
      have cX := Lib.hid (fun W => cS.out (calmC h) st n ((k : Int) + 1) W)
      generalize stpL (calmC h) st n ((k : Int) + 1) = x at cX hNX
      simp only [calmC] at cX
      have hwn : IntKind.i64.wrap n = n := IntWalk.i64_in _ (by omega)
      have hwk : IntKind.i64.wrap ((k : Int) + 1) = (k : Int) + 1 := IntWalk.i64_in _ (by omega)
      go_upto_region 11 with fail
      have hS := Lib.hid (fun W' (hb : Below wr.heap.size wr W') => (show (Cf7 W' bd (calmC h) ∧ Rs3 W' bs st) ∧ W'.cell? ⟨b, off + k, none⟩ = some (.int .u8 n) from ⟨⟨(HM.out.call hb).1, (HM.out.call hb).2.1⟩, ((HM.out.call hb).2.2.1.cell (p := ⟨b, off + k, none⟩) hbw).trans d⟩))
      have hT0 : Below wr.heap.size wr wr.drew := Below.drew (Below.refl _ _)
      simp only [Cf7, Rs3, St3, calmC] at hS
      clear d
      refine wp_region_tail_drew (l1 := [_, _, _, _, _, _, _, _, _]) (l2 := _) (S := fun W' => (((W'.cell? ⟨bd, 0, none⟩ = some (.int .i64 50) ∧ W'.cell? ⟨bd, 1, none⟩ = some (.int .i64 75) ∧ W'.cell? ⟨bd, 2, none⟩ = some (.int .i64 90) ∧ W'.cell? ⟨bd, 3, none⟩ = some (.int .i64 40) ∧ W'.cell? ⟨bd, 4, none⟩ = some (.int .i64 60) ∧ W'.cell? ⟨bd, 5, none⟩ = some (.int .i64 80) ∧ W'.cell? ⟨bd, 6, none⟩ = some (.int .i64 h)) ∧ (W'.cell? ⟨bs, 0, none⟩ = some (.int .i64 st.l) ∧ W'.cell? ⟨bs, 1, none⟩ = some (.int .i64 st.s) ∧ W'.cell? ⟨bs, 2, none⟩ = some (.int .i64 st.w)) ∧ W'.frozen? ⟨bs, 0, none⟩ = false ∧ W'.frozen? ⟨bs, 1, none⟩ = false ∧ W'.frozen? ⟨bs, 2, none⟩ = false) ∧ W'.cell? ⟨b, off + k, none⟩ = some (.int .u8 n))) (by kernel_rfl) (by kernel_rfl) (hS.out _ (by assumption)) (fun hHeld => ?_)
      (refine wpAnyH_take (i := 0) (v := ?_) rfl (by kernel_rfl) (by kernel_rfl) (by kernel_rfl) (fun _ _ _ h => h) (Or.inl ⟨by rfl, ?_⟩) (by assumption) ?_; rotate_left 1; (focus (intro wz hz; (try dsimp only at hz); (try simp only [List.getElem_toArray, List.getElem_cons_succ, List.getElem_cons_zero]); go_simp; (try (rw [if_neg (by (try simp only [ByteArray.size_append]); omega)])); try (with_reducible rfl); done)))
      try simp only [Act.put, List.getElem_toArray, List.getElem_cons_succ, List.getElem_cons_zero, List.setIfInBounds_toArray, List.set_cons_zero, List.set_cons_succ]
      (refine wpAnyH_take (i := 1) (v := ?_) rfl (by kernel_rfl) (by kernel_rfl) (by kernel_rfl) (fun _ _ _ h => h) (Or.inl ⟨by rfl, ?_⟩) (by assumption) ?_; rotate_left 1; (focus (intro wz hz; (try dsimp only at hz); (try simp only [List.getElem_toArray, List.getElem_cons_succ, List.getElem_cons_zero]); go_simp; (try (rw [if_neg (by (try simp only [ByteArray.size_append]); omega)])); try (with_reducible rfl); done)))
      try simp only [Act.put, List.getElem_toArray, List.getElem_cons_succ, List.getElem_cons_zero, List.setIfInBounds_toArray, List.set_cons_zero, List.set_cons_succ]
      (refine wpAnyH_take (i := 2) (v := ?_) rfl (by kernel_rfl) (by kernel_rfl) (by kernel_rfl) (fun _ _ _ h => h) (Or.inl ⟨by rfl, ?_⟩) (by assumption) ?_; rotate_left 1; (focus (intro wz hz; (try dsimp only at hz); (try simp only [List.getElem_toArray, List.getElem_cons_succ, List.getElem_cons_zero]); go_simp; (try (rw [if_neg (by (try simp only [ByteArray.size_append]); omega)])); try (with_reducible rfl); done)))
      try simp only [Act.put, List.getElem_toArray, List.getElem_cons_succ, List.getElem_cons_zero, List.setIfInBounds_toArray, List.set_cons_zero, List.set_cons_succ]
      (refine wpAnyH_take (i := 3) (v := ?_) rfl (by kernel_rfl) (by kernel_rfl) (by kernel_rfl) (fun _ _ _ h => h) (Or.inl ⟨by rfl, ?_⟩) (by assumption) ?_; rotate_left 1; (focus (intro wz hz; (try dsimp only at hz); (try simp only [List.getElem_toArray, List.getElem_cons_succ, List.getElem_cons_zero]); go_simp; (try (rw [if_neg (by (try simp only [ByteArray.size_append]); omega)])); try (with_reducible rfl); done)))
      try simp only [Act.put, List.getElem_toArray, List.getElem_cons_succ, List.getElem_cons_zero, List.setIfInBounds_toArray, List.set_cons_zero, List.set_cons_succ]
      (refine wpAnyH_take (i := 7) (v := ?_) rfl (by kernel_rfl) (by kernel_rfl) (by kernel_rfl) (fun _ _ _ h => h) (Or.inl ⟨by rfl, ?_⟩) (by assumption) ?_; rotate_left 1; (focus (intro wz hz; (try dsimp only at hz); (try simp only [List.getElem_toArray, List.getElem_cons_succ, List.getElem_cons_zero]); go_simp; (try (rw [if_neg (by (try simp only [ByteArray.size_append]); omega)])); try (with_reducible rfl); done)))
      try simp only [Act.put, List.getElem_toArray, List.getElem_cons_succ, List.getElem_cons_zero, List.setIfInBounds_toArray, List.set_cons_zero, List.set_cons_succ]
      (refine wpAnyH_take (i := 4) (v := ?_) rfl (by kernel_rfl) (by kernel_rfl) (by kernel_rfl) (fun _ _ _ h => h) (Or.inl ⟨by rfl, ?_⟩) (by assumption) ?_; rotate_left 1; (focus (intro wz hz; (try dsimp only at hz); (try simp only [List.getElem_toArray, List.getElem_cons_succ, List.getElem_cons_zero]); go_simp; (try (rw [if_neg (by (try simp only [ByteArray.size_append]); omega)])); try (with_reducible rfl); done)))
      try simp only [Act.put, List.getElem_toArray, List.getElem_cons_succ, List.getElem_cons_zero, List.setIfInBounds_toArray, List.set_cons_zero, List.set_cons_succ]
      (refine wpAnyH_take (i := 5) (v := ?_) rfl (by kernel_rfl) (by kernel_rfl) (by kernel_rfl) (fun _ _ _ h => h) (Or.inl ⟨by rfl, ?_⟩) (by assumption) ?_; rotate_left 1; (focus (intro wz hz; (try dsimp only at hz); (try simp only [List.getElem_toArray, List.getElem_cons_succ, List.getElem_cons_zero]); go_simp; (try (rw [if_neg (by (try simp only [ByteArray.size_append]); omega)])); try (with_reducible rfl); done)))
      try simp only [Act.put, List.getElem_toArray, List.getElem_cons_succ, List.getElem_cons_zero, List.setIfInBounds_toArray, List.set_cons_zero, List.set_cons_succ]
      (refine wpAnyH_take (i := 6) (v := ?_) rfl (by kernel_rfl) (by kernel_rfl) (by kernel_rfl) (fun _ _ _ h => h) (Or.inl ⟨by rfl, ?_⟩) (by assumption) ?_; rotate_left 1; (focus (intro wz hz; (try dsimp only at hz); (try simp only [List.getElem_toArray, List.getElem_cons_succ, List.getElem_cons_zero]); go_simp; (try (rw [if_neg (by (try simp only [ByteArray.size_append]); omega)])); try (with_reducible rfl); done)))
      try simp only [Act.put, List.getElem_toArray, List.getElem_cons_succ, List.getElem_cons_zero, List.setIfInBounds_toArray, List.set_cons_zero, List.set_cons_succ]
      (refine wpAnyH_ready (rs := [8]) (by kernel_rfl) (by simp) ?_; refine AllReadyH.cons rfl (fun K hK => ?_) AllReadyH.nil; (try simp only [List.getElem_toArray, List.getElem_cons_succ, List.getElem_cons_zero]); go_simp; go_at_call 7; refine (cX.out _).mono ?_; rintro e wn8 ⟨rfl, hbn8⟩; have hT8 : Below wr.heap.size wr wn8 := (by (repeat (first | (with_reducible exact Below.refl _ _) | ((with_reducible refine below_alloc ?_ ?_ _); · (first | omega | (simp; done) | (simp; omega))) | ((with_reducible refine below_setCell ?_ ?_ _); · (first | omega | (simp; done) | (simp; omega))) | (with_reducible refine Below.drew ?_) | (with_reducible refine below_drewN ?_ _) | ((with_reducible refine below_call (by assumption) ?_ ?_); · (first | omega | (simp; done) | (simp; omega)))))); (try (go_wp2_with fail)); refine hK.out _ _ (hS.out _ (by assumption)) (fun hHeld => ?_); clear hK K)
      try simp only [Act.put, List.getElem_toArray, List.getElem_cons_succ, List.getElem_cons_zero, List.setIfInBounds_toArray, List.set_cons_zero, List.set_cons_succ]
      refine wpAnyH_done (by kernel_rfl) ?_ _
      refine tail_go ?_
      clear hHeld
      have hHeld : True := trivial
      (refine wpAnyH_ready (rs := [9]) (by kernel_rfl) (by simp) ?_; refine AllReadyH.cons rfl (fun K hK => ?_) AllReadyH.nil; (try simp only [List.getElem_toArray, List.getElem_cons_succ, List.getElem_cons_zero]); (obtain ⟨⟨-, ⟨s0, s1, s3⟩, fz0, fz1, fz2⟩, -⟩ := hS.out _ hT8); go_simp; refine hK.out _ _ (trivial) (fun hHeld => ?_); clear hK K)
      try simp only [Act.put, List.getElem_toArray, List.getElem_cons_succ, List.getElem_cons_zero, List.setIfInBounds_toArray, List.set_cons_zero, List.set_cons_succ]
      refine wpAnyH_done (by kernel_rfl) ?_ _
      have HM2 := Lib.hid ((HM.out.call hT8).put x)
      obtain ⟨low2, hl2⟩ := hNX.out
      have HL2 := Lib.hid hl2
      clear hS hT0 hT8 hbn8 s0 s1 s3 fz0 fz1 fz2 hl2
      go_wp2
      go_roundw
      case rel => exact ⟨k + 1, low2, x, by go_num, by go_num, hlt, Lib.hid (by simpa using HL2.out), HM2⟩
      case measure => simp [intOf]; omega
    · obtain rfl : k = l.length := by omega
      have hkt : (0 : Int) ≤ (l.length : Int) := by omega
      have hkt2 : (l.length : Int) < 1099511627776 := by omega
      have cX := Lib.hid (fun W => cS.out (calmC h) st 100 ((l.length : Int) + 1) W)
      have hx3 := calm_full HC.out HL.out hkt hkt2
      have hmt : mesL (calmC h) st (l.length : Int) ≤ 3 * (h + 1) := mes_top HC.out HL.out
      generalize stpL (calmC h) st 100 ((l.length : Int) + 1) = x at cX hx3
      simp only [calmC] at cX
      have HX3 := Lib.hid hx3
      have HMT := Lib.hid hmt
      have hwk : IntKind.i64.wrap ((l.length : Int) + 1) = (l.length : Int) + 1 := IntWalk.i64_in _ (by omega)
      have hge : ¬ ((l.length : Int) < l.length) := by omega
      obtain ⟨x0, x1, x2, x3, x4, x5, x6⟩ := HM.out.1
      obtain ⟨⟨y0, y1, y2⟩, g0, g1, g2⟩ := HM.out.2.1
      simp only [calmC] at x0 x1 x2 x3 x4 x5 x6
      clear hx3 hmt
      go_wp2_with fail
      refine (cX.out _).mono ?_; rintro e w4 ⟨rfl, hb4⟩
      clear x0 x1 x2 x3 x4 x5 x6 y0 y1 y2 g0 g1 g2
      have HM4 := Lib.hid (HM.out.call hb4)
      go_upto_region 13 with fail
      refine gen_world (F := fun W => Cm w W bd bs h st ∧ St3 W w4.heap.size x ∧ bs < w4.heap.size) ⟨HM4.out.call (below_alloc (Nat.le_refl _) (Below.refl _ _) _), by simp [St3, go_sem], HM4.out.2.1.1.lt⟩ (fun wu hF => ?_)
      generalize w4.heap.size = bx at hF ⊢
      have HU := Lib.hid hF
      clear hF HM HM4 hb4
      go_wp2
      go_loopw [7, 10] (fun t i wr => ∃ (j : Nat) (low : Int) (st : Ls), t = .int .i64 ((l.length : Int) + j) ∧ i = .int .i64 j ∧ (j : Int) ≤ 3 * (h + 1) ∧ Hid (LowIs st ((l.length : Int) + j) low) ∧ Hid (mesL (calmC h) st ((l.length : Int) + j) ≤ max 0 (3 * (h + 1) - j)) ∧ Hid (Cm w wr bd bs h st ∧ St3 wr bx x ∧ bs < bx)) (fun _ i _ => (3 * (h + 1)).toNat - (intOf i).toNat)
      case atStart => exact ⟨0, low, st, by simp, rfl, by omega, Lib.hid (by simpa using HL.out), Lib.hid (by have := HMT.out; simp; omega), HU⟩
      case round =>
        clear HU HL HMT
        obtain ⟨j, low, st, rfl, rfl, hj, HL, HS, HM⟩ := hrel
        have hbw : bs < wr.heap.size := HM.out.1.2.1.1.lt
        obtain ⟨x0, x1, x2, x3, x4, x5, x6⟩ := HM.out.1.1
        obtain ⟨⟨y0, y1, y2⟩, g0, g1, g2⟩ := HM.out.1.2.1
        simp only [calmC] at x0 x1 x2 x3 x4 x5 x6
        have hw3 : IntKind.i64.wrap (h + 1) = h + 1 := IntWalk.i64_in _ (by omega)
        have hw4 : IntKind.i64.wrap (3 * (h + 1)) = 3 * (h + 1) := IntWalk.i64_in _ (by omega)
        by_cases hlt : (j : Int) < 3 * (h + 1)
        · have hlt1 : decide ((j : Int) < 3 * (h + 1)) = true := decide_eq_true hlt
          have ht : (0 : Int) ≤ (l.length : Int) + j := by omega
          have ht2 : (l.length : Int) + j < 1099511627776 := by omega
          have hNX := Lib.hid (calm_next HC.out HL.out ht ht2 (Int.le_refl 0))
          have hDN := Lib.hid (calm_down HC.out HL.out ht ht2 HS.out)
          have cY := Lib.hid (fun W => cS.out (calmC h) st 0 ((l.length : Int) + j + 1) W)
          generalize stpL (calmC h) st 0 ((l.length : Int) + j + 1) = y at cY hNX hDN
          simp only [calmC] at cY
          have hwt : IntKind.i64.wrap ((l.length : Int) + j + 1) = (l.length : Int) + j + 1 := IntWalk.i64_in _ (by omega)
          go_wp2_with fail
          refine (cY.out _).mono ?_; rintro e w6 ⟨rfl, hb6⟩
          have HM6 := Lib.hid (And.intro ((HM.out.1.call hb6).put y) (And.intro (HM.out.2.1.call hb6) HM.out.2.2))
          clear x0 x1 x2 x3 x4 x5 x6 y0 y1 y2 g0 g1 g2
          obtain ⟨x0, x1, x2, x3, x4, x5, x6⟩ := (HM.out.1.call hb6).1
          obtain ⟨⟨y0, y1, y2⟩, g0, g1, g2⟩ := (HM.out.1.call hb6).2.1
          obtain ⟨low2, hl2⟩ := hNX.out
          have HL2 := Lib.hid hl2
          clear hl2
          go_wp2
          go_roundw
          case rel =>
            refine ⟨j + 1, low2, y, by first | go_num | (simp; omega), by go_num, by omega, Lib.hid (by have := HL2.out; rwa [show (l.length : Int) + j + 1 = (l.length : Int) + ((j + 1 : Nat) : Int) by omega] at this), Lib.hid ?_, Lib.hid ⟨HM6.out.1, st3_other HM6.out.2.1 (by have := HM6.out.2.2; omega) _ _ _, HM6.out.2.2⟩⟩
            have := hDN.out
            rw [show (l.length : Int) + j + 1 = (l.length : Int) + ((j + 1 : Nat) : Int) by omega] at this
            rw [show (3 * (h + 1) - ((j + 1 : Nat) : Int)) = 3 * (h + 1) - j - 1 by omega]
            exact this
          case measure => simp [intOf]; omega
        · have hj2 : (j : Int) = 3 * (h + 1) := by omega
          have hlt1 : decide ((j : Int) < 3 * (h + 1)) = false := decide_eq_false hlt
          have hz : st.l = 0 := mes_zero HC.out HL.out.1 (t := (l.length : Int) + j) (by have := HS.out; omega)
          obtain ⟨r0, r1, r2⟩ := HM.out.2.1
          rw [HX3.out] at r0
          rw [hz] at y0
          have HB := Lib.hid HM.out.1.2.2.1
          have HQ := Lib.hid (And.intro (And.intro y0 r0) HM.out.1.2.2.1)
          clear hz hj2
          go_wp2_with fail
          refine (cA.out _).mono ?_; rintro e w7 ⟨rfl, hb7⟩
          have hr7 := (hb7.cell (p := ⟨bx, 0, none⟩) (World.block_lt_of_cell? _ _ HQ.out.1.2)).trans HQ.out.1.2
          clear x0 x1 x2 x3 x4 x5 x6 y0 y1 y2 g0 g1 g2 r0 r1 r2
          go_wp2_with fail
          refine (cB.out _).mono ?_; rintro e w8 ⟨rfl, hb8⟩
          clear hr7
          go_wp2_with fail
          refine (aw.out _).mono ?_; rintro e w9 ⟨rfl, hb9⟩
          go_wp2
          go_ret
          have B7 := HB.out.trans (hb7.mono HB.out.size)
          have B8 := B7.trans (hb8.mono B7.size)
          exact ⟨rfl, B8.trans (hb9.mono B8.size)⟩

set_option maxRecDepth 100000 in
theorem lcalm_lifted (os : Os) (started : os.Started) (H : Type) (enc : TypeId × Value → H) :
    ReturnsInHanded {} Try.checked os 6 .any (Rows.levelCalmSpec.pre6 enc Try.prog Try.f6 Rows.levelCalmRow.domain false) (Rows.levelCalmSpec.post enc Try.prog Try.f6 false true false false) := by
  refine returnsInHanded_of_change (C := Try.checked) own started (by kernel_rfl) Try.func6
    (ChangeSpec.witness6 (enc := enc) (C := Try.checked) false ⟨#[], #[.int .u8 0, .slice none 0 0], []⟩ 8 (by kernel_rfl) (by kernel_rfl) (by kernel_rfl) (by kernel_rfl)) ?_
  intro W base args ds gs before hval0 hW hcnd _
  have hval : ∀ (j : Nat) t v, Try.f6.params[j]? = some t → args[j]? = some v → Value.okWide Try.prog W .any base t v := hval0
  have hW' := hW
  obtain ⟨p, q, hA0, hV, rfl, hfz, hnd⟩ := hW
  have hA : DataW.TrodAll enc Try.prog W 0 (fun _ => true) true Try.f6.params.toList args.toList ds p := hA0
  rw [Try.params6] at hA hval
  obtain ⟨v0, vs0, d0, ds0, p0, q0, hargs, rfl, rfl, h0, r0⟩ := trodAll_cons hA
  obtain ⟨v1, vs1, d1, ds1, p1, q1, rfl, rfl, rfl, h1, r1⟩ := trodAll_cons r0
  obtain ⟨rfl, rfl, rfl⟩ := trodAll_nil r1
  obtain rfl : args = #[v0, v1] := by cases args; simp_all
  obtain ⟨rfl, rfl⟩ := trodVars_none hV
  obtain ⟨n0, rfl, rfl, rfl, wa⟩ := open_int Try.underlying5 (hval 0 5 v0 rfl rfl) h0
  obtain ⟨l, hl, hln, hls⟩ := open_nums_k Try.underlying50 Try.underlying5 (by kernel_rfl) (hval 1 50 v1 rfl rfl) h1
  refine (lcalm_walk n0 v1 l W (bounds_u8 wa) hl (fun n hn => bounds_u8 (hls n hn))).mono fun e W' ⟨he, hb⟩ => ?_
  subst he
  exact ⟨_, rfl, law_post rfl rfl Try.underlying4 (by kernel_rfl) rfl hW' hb⟩
theorem lcalm_holds : Rows.LevelCalmSaid :=
  OpenClaim.holds_of_wide 6 Try.f6 rfl rfl rfl rfl rfl rfl rfl ⟨rfl, rfl, rfl, rfl, rfl⟩ rfl rfl rfl rfl rfl (by kernel_rfl) Try.func6 (by kernel_rfl)
    (of_decide_eq_true (by kernel_rfl)) (by unfold Func.isWrapper; first | (rw [if_pos (by decide +kernel)]; kernel_rfl) | (rw [if_neg (by decide +kernel)]; exact ⟨rfl, rfl⟩))
    (fun os started H enc _ => lcalm_lifted os started H enc)
end Go.Proofs.Ytjnonngnkkdmdaa
