/- Layer 14, the program's: slices.DeleteFunc of entries; Clean. -/
import Derived.Test.YtpmabkegjdjodaaP14C
namespace Go.Proofs.Ytpmabkegjdjodaa
open Go.RowKit
set_option linter.unusedVariables false
set_option linter.unusedSimpArgs false

set_option maxRecDepth 100000 in
set_option maxHeartbeats 4000000 in
theorem delful_any (B R now : Int) (b0 b1 D : Nat) (v : Value) (L : List En) (w : World) (hv : OwnR 64 3 enC w D v L) (hl : L.length ≤ 1000000) (h0 : Bx2 w b0 B R) (h1 : w.cell? ⟨b1, 0, none⟩ = some (.int .i64 now)) (hb0 : b0 < D) (hb1 : b1 < D) (hDw : D ≤ w.heap.size) :
    Calls Try.prog 40 #[v, .func (.func 39) #[] #[.pointer (some ⟨b0, 0, none⟩), .pointer (some ⟨b1, 0, none⟩)]] w fun e w' => ∃ v', e = .returned v' ∧ OwnR 64 3 enC w' D v' (L.filter fun x => !fulF B R now x) ∧ Below D w w' := by
  have cI := Lib.hid (idxful_any B R now b0 b1 v L w (hv.reads enC_len) hl h0 h1)
  have HV := Lib.hid hv
  have H0 := Lib.hid h0
  have H1 := Lib.hid h1
  rcases hv.2 with ⟨rfl, hL⟩ | ⟨g, cap, cur, rfl, hDg, hg, hc, hm, hs, ht⟩
  · obtain rfl := List.eq_nil_of_length_eq_zero hL
    clear h0 h1 hL hv
    go_enter Try.func40, Try.ntmps40
    go_wp2_with fail
    refine cI.out.mono ?_; rintro e w1 ⟨r, rfl, hr, hbi⟩
    have hr' : r = -1 := by
      rcases hr with ⟨h, -⟩ | ⟨k, -, hk, -⟩
      · exact h
      · cases hk
    subst hr'
    clear hr
    go_wp2
    go_ret
    exact ⟨_, rfl, OwnR.nil _ _ _ _ _, hbi.mono hDw⟩
  · clear hg hs ht h0 h1 hv cur
    go_enter Try.func40, Try.ntmps40
    go_wp2_with fail
    refine cI.out.mono ?_; rintro e w1 ⟨r, rfl, hr, hbi⟩
    have HV1 := Lib.hid (HV.out.call hbi)
    have B1 : Below D w w1 := hbi.mono hDw
    rcases hr with ⟨rfl, hall⟩ | ⟨k0, rfl, hk0, hp0, hall⟩
    · have HQ : Hid ((L.filter fun x => !fulF B R now x) = L) := Lib.hid (List.filter_eq_self.2 (fun x hx => by obtain ⟨j, hj, rfl⟩ := List.getElem_of_mem hx; rw [hall j hj]; rfl))
      clear hall
      go_wp2
      go_ret
      exact ⟨_, rfl, by rw [HQ.out]; exact HV1.out, B1⟩
    · have HK0 := Lib.hid (Kept.start hk0 hp0 hall)
      have hne1 : ((k0 : Int) == -1) = false := beq_eq_false_iff_ne.2 (by omega)
      have hne2 : ¬ ((k0 : Int) = -1) := by omega
      clear hall hp0
      go_wp2
      go_loopw [5, 6] (fun i j wr => ∃ (a k : Nat) (K : List En), i = .int .i64 a ∧ j = .int .i64 k ∧ Hid (Kept L K (fun x => !fulF B R now x) a k) ∧ a < k ∧ k ≤ L.length ∧ Hid (OwnR 64 3 enC wr D (.slice (some ⟨g, 0, none⟩) L.length cap) K) ∧ Below D w wr) (fun _ j _ => L.length - (intOf j).toNat)
      case atStart => exact ⟨k0, k0 + 1, L, rfl, by go_num, HK0, Nat.lt_succ_self _, hk0, HV1, B1⟩
      case round =>
        clear B1 HK0 HV1
        obtain ⟨a, k, K, rfl, rfl, HK, hak, hkl, HO, hB⟩ := hrel
        have hKl := HK.out.len
        by_cases hlt : k < L.length
        · have hlt' : (k : Int) < L.length := by omega
          have hal : (a : Int) < L.length := by omega
          obtain ⟨bb, off, eb, gg⟩ := (show ∃ b off, (some ⟨g, 0, none⟩ : Option Addr) = some ⟨b, off, none⟩ ∧ ∀ c u, (enC (K[k]'(by omega)))[c]? = some u → wr.cell? ⟨b, off + k * 3 + c, none⟩ = some u by
            obtain ⟨p, cp, e, _, h⟩ := HO.out.reads enC_len
            simp only [Value.slice.injEq] at e
            obtain ⟨rfl, -, -⟩ := e
            exact h k (by omega))
          cases eb
          rw [HK.out.at hlt (by omega)] at gg
          have g3 := en3_of gg
          rw [Nat.zero_add] at g3
          have cC : Hid (∀ (W : World), Below D w W → Calls Try.prog 39 #[.agg #[.int .i64 L[k].1, .int .i64 L[k].2.1, .int .i64 L[k].2.2], .pointer (some ⟨b0, 0, none⟩), .pointer (some ⟨b1, 0, none⟩)] W fun r w' => r = .returned (.bool (fulF B R now L[k])) ∧ Below W.heap.size W w') :=
            Lib.hid (fun W hb => cln1_any B R now L[k].1 L[k].2.1 L[k].2.2 b0 b1 W (bx2_far H0.out hb hb0) ((hb.cell (p := ⟨b1, 0, none⟩) hb1).trans H1.out))
          have HS := Lib.hid (HK.out.skip hlt)
          have HP := Lib.hid (HK.out.keep hlt)
          generalize L[k] = x at g3 cC HS HP
          obtain ⟨s, T, A⟩ := x
          obtain ⟨d0, d1, d2⟩ := g3
          simp only at d0 d1 d2 cC
          have hgw : g < wr.heap.size := World.block_lt_of_cell? _ _ d0
          have hDr : D ≤ wr.heap.size := by omega
          clear gg
          cases hf : fulF B R now (s, T, A) with
          | true =>
            rw [hf] at cC HS
            clear HP hf
            go_wp2_with (go_at_call 39; refine (cC.out _ (hB.alloc hDr _)).mono ?_; rintro e w2 ⟨rfl, hb2⟩)
            have hb2' : Below wr.heap.size wr w2 := (below_alloc (Nat.le_refl _) (Below.refl _ _) _).trans (hb2.mono (by simp))
            go_roundw
            case rel => exact ⟨a, k + 1, K, rfl, by go_num, Lib.hid (HS.out rfl), by omega, hlt, Lib.hid (HO.out.call hb2'), hB.trans (hb2'.mono hDr)⟩
            case measure => simp [intOf]; omega
          | false =>
            rw [hf] at cC HP
            clear HS hf
            have X0 : Hid (∀ t, En3 (wr.alloc (.cells #[.int .i64 s, .int .i64 T, .int .i64 A] t)) wr.heap.size 0 (s, T, A)) := Lib.hid (fun t => by simp [En3, go_sem])
            go_wp2_with fail
            refine (cC.out _ (hB.alloc hDr _)).mono ?_; rintro e w2 ⟨rfl, hb2⟩
            have hb2' : Below wr.heap.size wr w2 := (below_alloc (Nat.le_refl _) (Below.refl _ _) _).trans (hb2.mono (by simp))
            obtain ⟨x0, x1, x2⟩ := (X0.out _).far hb2
            simp only [Nat.zero_add] at x0 x1 x2
            have HO2 := Lib.hid (HO.out.call hb2')
            obtain ⟨y0, e0⟩ := own_cell HO2.out hKl.symm (j := a * 3) (by omega)
            obtain ⟨y1, e1⟩ := own_cell HO2.out hKl.symm (j := a * 3 + 1) (by omega)
            obtain ⟨y2, e2⟩ := own_cell HO2.out hKl.symm (j := a * 3 + 2) (by omega)
            have hfz : ∀ j, w2.frozen? ⟨g, j, none⟩ = false := fun j => own_frozen HO2.out hKl.symm j
            have B2 := Lib.hid (hB.trans (hb2'.mono hDr))
            have HN := Lib.hid (en_put (k := a) ((s, T, A) : En) HO2.out hKl.symm (by omega))
            clear d0 d1 d2 X0 hb2 hb2'
            go_wp2
            go_roundw
            case rel =>
              refine ⟨a + 1, k + 1, K.set a (s, T, A), by go_num, by go_num, Lib.hid (HP.out rfl), by omega, hlt, HN, ?_⟩
              have := B2.out
              (repeat (first | (with_reducible exact Below.refl _ _) | ((with_reducible refine below_alloc ?_ ?_ _); · (first | omega | (simp; done) | (simp; omega))) | ((with_reducible refine below_setCell ?_ ?_ _); · (first | omega | (simp; done) | (simp; omega))) | (with_reducible refine Below.drew ?_) | (with_reducible refine below_drewN ?_ _) | ((with_reducible refine below_call (by assumption) ?_ ?_); · (first | omega | (simp; done) | (simp; omega)))))
              all_goals exact B2.out
            case measure => simp [intOf]; omega
        · obtain rfl : k = L.length := by omega
          have hO := HO.out
          rcases hO.2 with ⟨hq, -⟩ | ⟨g', cap', cur, hq, -, hg, hc', hm', hs, ht⟩
          · cases hq
          simp only [Value.slice.injEq, Option.some.injEq, Addr.mk.injEq, and_true] at hq
          obtain ⟨rfl, -, rfl⟩ := hq
          have HF := Lib.hid (And.intro HK.out.got (And.intro hs ht))
          have hsz : cur.size = cap * 3 := hs
          have hac : (a : Int) ≤ L.length := by omega
          have hna : 0 < L.length - a := by omega
          have hca : ¬ (cap = a) := by omega
          obtain ⟨i0, hi, hj0, hj1, hj2⟩ := info_parts lays_sen.info
          clear hs ht hO HO
          go_wp2_with (refine wpList_clear_k rfl _ 29 rfl 64 i0 enZ 3 Try.underlying29 hi hj0 rfl (by intro u hu; simp [Value.cells] at hu; rcases hu with rfl | rfl | rfl <;> rfl) g (a * 3) _ _ rfl (by omega) cur 64 hg (by rw [hsz]; omega) D w hB hDg ?_; intro w3 zs hzl hg3 hb3)
          go_ret
          refine ⟨_, rfl, ?_, hb3⟩
          have hzl' : zs.length = (L.length - a) * 3 := hzl
          have hfit : a * 3 + (L.length - a) * 3 ≤ cap * 3 := by omega
          obtain ⟨f1, f2, f3⟩ := HF.out
          rw [List.take_length] at f1
          have hal : a = (L.filter fun x => !fulF B R now x).length := by rw [← f1, List.length_take]; omega
          refine OwnR.of_blk enC_len hal hDg hg3.out (by rw [← hal]; omega) hm (by rw [List.size_toArray, length_splice _ _ _ (by rw [hzl', Array.length_toList (xs := cur), hsz]; exact hfit), Array.length_toList (xs := cur), hsz]) ?_
          rw [← hal, List.toList_toArray, splice_take (Nat.le_refl _) (by rw [Array.length_toList, hsz]; omega), ← f1, ← flat_take enC_len, ← f3, List.take_take, Nat.min_eq_left (by omega)]
theorem fil_ful {B R : Int} {L : List En} (h : chkS14 B R L = 0) (now : Int) : (L.filter fun x => !fulF B R now x) = clnS B R L now := by
  rw [cln_fl h now]
  refine List.filter_congr (fun x hx => ?_)
  have hf := ((chk_iff.1 h).2.2.1 x hx).2
  have hb := lvl_bd hf now
  unfold fulF lowF
  by_cases e : lvlN B R x.2.1 x.2.2 now = B
  · rw [decide_eq_true e, decide_eq_false (by omega)]; rfl
  · rw [decide_eq_false e, decide_eq_true (by omega)]; rfl
set_option maxRecDepth 100000 in
set_option maxHeartbeats 2000000 in
theorem psclean_own (B R : Int) (v : Value) (L : List En) (now : Int) (w : World) (hv : IsR 3 enC w v L) (hl : L.length ≤ 1000000) :
    Calls Try.prog 16 #[twV B R, v, .int .i64 now] w fun e w' => ∃ v', e = .returned v' ∧ OwnR 64 3 enC w' w.heap.size v' (clnS B R L now) ∧ Below w.heap.size w w' := by
  have HV := Lib.hid hv
  have c0 := Lib.hid (fun W (hb : Below w.heap.size w W) => pscheck_any B R v L W (hv.call hb) hl)
  have cC := Lib.hid (fun W (hb : Below w.heap.size w W) => clone14_any v L W (hv.call hb) hl)
  have X0 : Hid (∀ t t', Bx2 ((w.alloc (.cells #[.int .i64 B, .int .i64 R] t)).alloc (.cells #[.int .i64 now] t')) w.heap.size B R ∧ ((w.alloc (.cells #[.int .i64 B, .int .i64 R] t)).alloc (.cells #[.int .i64 now] t')).cell? ⟨w.heap.size + 1, 0, none⟩ = some (.int .i64 now)) := Lib.hid (fun t t' => by simp [Bx2, go_sem])
  clear hv
  simp only [twV] at *
  by_cases hc : chkS14 B R L = 0
  case neg =>
    have HQ := Lib.hid (cln_no hc now)
    have e0 : (chkS14 B R L != 0) = true := by simp [hc]
    generalize chkS14 B R L = E at c0 e0
    clear hc
    go_enter Try.func16, Try.ntmps16
    go_wp2_with fail
    refine (c0.out _ (by (repeat (first | (with_reducible exact Below.refl _ _) | ((with_reducible refine below_alloc ?_ ?_ _); · (first | omega | (simp; done) | (simp; omega))) | ((with_reducible refine below_setCell ?_ ?_ _); · (first | omega | (simp; done) | (simp; omega))) | (with_reducible refine Below.drew ?_) | (with_reducible refine below_drewN ?_ _) | ((with_reducible refine below_call (by assumption) ?_ ?_); · (first | omega | (simp; done) | (simp; omega))))))).mono ?_; rintro e w1 ⟨rfl, hb1⟩
    have B1 : Below w.heap.size w w1 := by (repeat (first | (with_reducible exact Below.refl _ _) | ((with_reducible refine below_alloc ?_ ?_ _); · (first | omega | (simp; done) | (simp; omega))) | ((with_reducible refine below_setCell ?_ ?_ _); · (first | omega | (simp; done) | (simp; omega))) | (with_reducible refine Below.drew ?_) | (with_reducible refine below_drewN ?_ _) | ((with_reducible refine below_call (by assumption) ?_ ?_); · (first | omega | (simp; done) | (simp; omega)))))
    go_wp2_with fail
    refine (cC.out _ B1).mono ?_; rintro e w2 ⟨v2, rfl, ho2, hb2⟩
    have B2 := B1.trans (hb2.mono B1.size)
    go_wp2
    go_ret
    exact ⟨_, rfl, by rw [HQ.out]; exact ho2.mono B1.size, B2⟩
  case pos =>
    have HQ := Lib.hid (fil_ful hc now)
    rw [hc] at c0
    clear hc
    go_enter Try.func16, Try.ntmps16
    go_wp2_with fail
    refine (c0.out _ (by (repeat (first | (with_reducible exact Below.refl _ _) | ((with_reducible refine below_alloc ?_ ?_ _); · (first | omega | (simp; done) | (simp; omega))) | ((with_reducible refine below_setCell ?_ ?_ _); · (first | omega | (simp; done) | (simp; omega))) | (with_reducible refine Below.drew ?_) | (with_reducible refine below_drewN ?_ _) | ((with_reducible refine below_call (by assumption) ?_ ?_); · (first | omega | (simp; done) | (simp; omega))))))).mono ?_; rintro e w1 ⟨rfl, hb1⟩
    have B1 : Below w.heap.size w w1 := by (repeat (first | (with_reducible exact Below.refl _ _) | ((with_reducible refine below_alloc ?_ ?_ _); · (first | omega | (simp; done) | (simp; omega))) | ((with_reducible refine below_setCell ?_ ?_ _); · (first | omega | (simp; done) | (simp; omega))) | (with_reducible refine Below.drew ?_) | (with_reducible refine below_drewN ?_ _) | ((with_reducible refine below_call (by assumption) ?_ ?_); · (first | omega | (simp; done) | (simp; omega)))))
    obtain ⟨X1, Y1⟩ := X0.out _ _
    have Y2 := (hb1.cell (p := ⟨w.heap.size + 1, 0, none⟩) (World.block_lt_of_cell? _ _ Y1)).trans Y1
    have X2 := X1.call hb1
    clear X0 X1 Y1
    go_wp2_with fail
    refine (cC.out _ B1).mono ?_; rintro e w2 ⟨v2, rfl, ho2, hb2⟩
    have B2 := B1.trans (hb2.mono B1.size)
    have hz1 : w.heap.size + 1 < w1.heap.size := World.block_lt_of_cell? _ _ Y2
    have cD := Lib.hid (delful_any B R now w.heap.size (w.heap.size + 1) w1.heap.size v2 L w2 ho2 hl (X2.call hb2) ((hb2.cell (p := ⟨w.heap.size + 1, 0, none⟩) hz1).trans Y2) (by omega) hz1 hb2.size)
    clear X2 Y2
    go_wp2_with fail
    refine cD.out.mono ?_; rintro e w3 ⟨v3, rfl, ho3, hb3⟩
    have B3 := B2.trans (hb3.mono (Nat.le_of_lt (by omega)))
    rw [HQ.out] at ho3
    go_wp2
    go_ret
    exact ⟨_, rfl, ho3.mono (by omega), B3⟩
theorem psclean_any (B R : Int) (v : Value) (L : List En) (now : Int) (w : World) (hv : IsR 3 enC w v L) (hl : L.length ≤ 1000000) : Calls Try.prog 16 #[twV B R, v, .int .i64 now] w fun e w' => ∃ v', e = .returned v' ∧ IsR 3 enC w' v' (clnS B R L now) ∧ Below w.heap.size w w' :=
  (psclean_own B R v L now w hv hl).mono (fun e w1 ⟨v', h1, h2, h3⟩ => ⟨v', h1, h2.reads enC_len, h3⟩)
end Go.Proofs.Ytpmabkegjdjodaa
