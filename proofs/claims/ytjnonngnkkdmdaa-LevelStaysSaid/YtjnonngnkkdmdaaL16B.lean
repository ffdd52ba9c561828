/- Layer 16, the document's Step. -/
import Derived.Test.YtjnonngnkkdmdaaL16A
import Derived.Lib.MinMax
import Derived.Deep.DeepCutAuto
namespace Go.Proofs.Ytjnonngnkkdmdaa
open Go.RowKit
set_option linter.unusedVariables false
set_option linter.unusedSimpArgs false

theorem lnew_any (w : World) : Calls Try.prog 14 #[] w fun e w' => e = .returned (lsV newLv) ∧ Below w.heap.size w w' := by
  go_enter Try.func14, Try.ntmps14
  go_wp2
  refine bodyPost_ret (v := .agg #[.int .i64 0, .int .i64 0, .int .i64 (-1)]) (by simp [results, Try.results14, go_sem]) rfl ⟨rfl, ?_⟩
  (repeat (first | (with_reducible exact Below.refl _ _) | ((with_reducible refine below_alloc ?_ ?_ _); · (first | omega | (simp; done) | (simp; omega))) | ((with_reducible refine below_setCell ?_ ?_ _); · (first | omega | (simp; done) | (simp; omega))) | (with_reducible refine Below.drew ?_) | (with_reducible refine below_drewN ?_ _) | ((with_reducible refine below_call (by assumption) ?_ ?_); · (first | omega | (simp; done) | (simp; omega)))))
theorem lusual_any (w : World) : Calls Try.prog 16 #[] w fun e w' => e = .returned (cfV usuLv) ∧ Below w.heap.size w w' := by
  go_enter Try.func16, Try.ntmps16
  go_wp2
  refine bodyPost_ret (v := .agg #[.int .i64 50, .int .i64 75, .int .i64 90, .int .i64 40, .int .i64 60, .int .i64 80, .int .i64 5]) (by simp [results, Try.results16, go_sem]) rfl ⟨rfl, ?_⟩
  (repeat (first | (with_reducible exact Below.refl _ _) | ((with_reducible refine below_alloc ?_ ?_ _); · (first | omega | (simp; done) | (simp; omega))) | ((with_reducible refine below_setCell ?_ ?_ _); · (first | omega | (simp; done) | (simp; omega))) | (with_reducible refine Below.drew ?_) | (with_reducible refine below_drewN ?_ _) | ((with_reducible refine below_call (by assumption) ?_ ?_); · (first | omega | (simp; done) | (simp; omega)))))
theorem ris_more (c : Lc) (n : Int) : ∀ (f : Nat) (l : Int), 3 ≤ l + f → risL c n (f + 1) l = risL c n f l
  | 0, l, h => by
    unfold risL
    rw [if_neg (by omega)]
  | f + 1, l, h => by
    rw [risL, ris_more c n f (l + 1) (by omega)]
    rfl
theorem ris_go {c : Lc} {n l : Int} (h0 : 0 ≤ l) (h : l < 3 ∧ upL c l ≤ n) : risL c n 3 l = risL c n 3 (l + 1) := by
  rw [ris_more c n 2 (l + 1) (by omega)]
  rw [risL, if_pos h]
theorem ris_end {c : Lc} {n l : Int} (h : ¬ (l < 3 ∧ upL c l ≤ n)) : risL c n 3 l = l := by
  rw [risL, if_neg h]
/-- block b holds this state, and may be written -/
def Rs3 (w : World) (b : Nat) (st : Ls) : Prop := St3 w b st ∧ (w.frozen? ⟨b, 0, none⟩ = false ∧ w.frozen? ⟨b, 1, none⟩ = false ∧ w.frozen? ⟨b, 2, none⟩ = false)
theorem Rs3.call {W w1 : World} {b : Nat} {st : Ls} (h : Rs3 W b st) (hb : Below W.heap.size W w1) : Rs3 w1 b st :=
  ⟨h.1.call hb, (hb.frozen (p := ⟨b, 0, none⟩) h.1.lt).trans h.2.1, (hb.frozen (p := ⟨b, 1, none⟩) h.1.lt).trans h.2.2.1, (hb.frozen (p := ⟨b, 2, none⟩) h.1.lt).trans h.2.2.2⟩
/-- the conf, the state and the answer lie in three blocks, one behind the other -/
def On8 (w W : World) (c : Lc) (s : Ls) : Prop := Cf7 W w.heap.size c ∧ Rs3 W (w.heap.size + 1) s ∧ Rs3 W (w.heap.size + 1 + 1) ⟨0, 0, 0⟩ ∧ Below w.heap.size w W
theorem On8.call {w W w1 : World} {c : Lc} {s : Ls} (h : On8 w W c s) (hb : Below W.heap.size W w1) : On8 w w1 c s :=
  ⟨h.1.call hb, h.2.1.call hb, h.2.2.1.call hb, h.2.2.2.trans (hb.mono h.2.2.2.size)⟩
theorem On8.put {w W : World} {c : Lc} {s : Ls} (h : On8 w W c s) (x y z : Int) : On8 w (((W.setCell ⟨w.heap.size + 1, 0, none⟩ (.int .i64 x)).setCell ⟨w.heap.size + 1, 1, none⟩ (.int .i64 y)).setCell ⟨w.heap.size + 1, 2, none⟩ (.int .i64 z)) c ⟨x, y, z⟩ := by
  obtain ⟨⟨x0, x1, x2, x3, x4, x5, x6⟩, ⟨⟨y0, y1, y2⟩, g0, g1, g2⟩, ⟨⟨z0, z1, z2⟩, f0, f1, f2⟩, hB⟩ := h
  refine ⟨by simp [Cf7, go_sem, *], by simp [Rs3, St3, go_sem, *], by simp [Rs3, St3, go_sem, *], ((hB.setCell (by simp) _).setCell (by simp) _).setCell (by simp) _⟩
/-- the level that a world's cell holds -/
def lvlAt (W : World) (b : Nat) : Nat := match W.cell? ⟨b, 0, none⟩ with
  | some (.int _ x) => (3 - x).toNat
  | _ => 0
theorem lvlAt_is {W : World} {b : Nat} {st : Ls} (h : St3 W b st) : lvlAt W b = (3 - st.l).toNat := by
  unfold lvlAt
  rw [h.1]
theorem On8.start {w : World} {c : Lc} {st : Ls} {t t' t'' : TypeId} : On8 w (((w.alloc (.cells #[.int .i64 c.u0, .int .i64 c.u1, .int .i64 c.u2, .int .i64 c.d0, .int .i64 c.d1, .int .i64 c.d2, .int .i64 c.h] t)).alloc (.cells #[.int .i64 st.l, .int .i64 st.s, .int .i64 st.w] t')).alloc (.cells #[.int .i64 0, .int .i64 0, .int .i64 0] t'')) c st :=
  ⟨by simp [Cf7, go_sem], by simp [Rs3, St3, go_sem], by simp [Rs3, St3, go_sem], by (repeat (first | (with_reducible exact Below.refl _ _) | ((with_reducible refine below_alloc ?_ ?_ _); · (first | omega | (simp; done) | (simp; omega))) | ((with_reducible refine below_setCell ?_ ?_ _); · (first | omega | (simp; done) | (simp; omega))) | (with_reducible refine Below.drew ?_) | (with_reducible refine below_drewN ?_ _) | ((with_reducible refine below_call (by assumption) ?_ ?_); · (first | omega | (simp; done) | (simp; omega)))))⟩
set_option maxRecDepth 100000 in
set_option maxHeartbeats 8000000 in
theorem lstep_any (c : Lc) (st : Ls) (load now : Int) (w : World) : Calls Try.prog 8 #[cfV c, lsV st, .int .i64 load, .int .i64 now] w fun e w' => e = .returned (lsV (stpL c st load now)) ∧ Below w.heap.size w w' := by
  have cc := Lib.hid (fun W => lcheck_any c W)
  have cf := Lib.hid (fun W => lfine_any st W)
  have cl := Lib.hid (fun W => lheld_any load 0 100 W)
  have cn := Lib.hid (fun W => lheld_any now (max st.s st.w) 1099511627776 W)
  simp only [cfV, lsV] at *
  go_enter Try.func8, Try.ntmps8
  go_upto_region 1 with fail
  refine gen_world (F := fun W => On8 w W c st) On8.start (fun W T => ?_)
  have HT := Lib.hid T
  obtain ⟨⟨x0, x1, x2, x3, x4, x5, x6⟩, ⟨⟨y0, y1, y2⟩, g0, g1, g2⟩, ⟨⟨z0, z1, z2⟩, f0, f1, f2⟩, hB⟩ := T
  by_cases hc : chkLv c = 0
  case neg =>
    have HE : Hid (stpL c st load now = st) := Lib.hid (if_pos (.inl hc))
    generalize chkLv c = ce at cc hc
    have hcb : (ce != 0) = true := by simp [hc]
    clear hc
    go_wp2_with fail
    refine (cc.out _).mono ?_; rintro e w1 ⟨rfl, hb⟩
    clear x0 x1 x2 x3 x4 x5 x6 y0 y1 y2 g0 g1 g2 z0 z1 z2 f0 f1 f2 hB
    obtain ⟨⟨x0, x1, x2, x3, x4, x5, x6⟩, ⟨⟨y0, y1, y2⟩, g0, g1, g2⟩, ⟨⟨z0, z1, z2⟩, f0, f1, f2⟩, hB⟩ := HT.out.call hb
    go_wp2
    rw [HE.out]
    refine bodyPost_ret (v := .agg #[.int .i64 st.l, .int .i64 st.s, .int .i64 st.w]) (by simp [results, Try.results8, go_sem, *]) rfl ⟨rfl, ?_⟩
    (repeat (first | (with_reducible exact Below.refl _ _) | ((with_reducible refine below_alloc ?_ ?_ _); · (first | omega | (simp; done) | (simp; omega))) | ((with_reducible refine below_setCell ?_ ?_ _); · (first | omega | (simp; done) | (simp; omega))) | (with_reducible refine Below.drew ?_) | (with_reducible refine below_drewN ?_ _) | ((with_reducible refine below_call (by assumption) ?_ ?_); · (first | omega | (simp; done) | (simp; omega)))))
  have hc0 := Lib.hid hc
  rw [hc] at cc
  clear hc
  cases hf : finLv st with
  | false =>
    have HE : Hid (stpL c st load now = st) := Lib.hid (if_pos (.inr hf))
    rw [hf] at cf
    clear hf
    go_wp2_with fail
    refine (cc.out _).mono ?_; rintro e w1 ⟨rfl, hb⟩
    clear x0 x1 x2 x3 x4 x5 x6 y0 y1 y2 g0 g1 g2 z0 z1 z2 f0 f1 f2 hB
    have HT1 := Lib.hid (HT.out.call hb)
    obtain ⟨⟨x0, x1, x2, x3, x4, x5, x6⟩, ⟨⟨y0, y1, y2⟩, g0, g1, g2⟩, ⟨⟨z0, z1, z2⟩, f0, f1, f2⟩, hB⟩ := HT1.out
    clear hb
    go_wp2_with fail
    refine (cf.out _).mono ?_; rintro e w2 ⟨rfl, hb⟩
    clear x0 x1 x2 x3 x4 x5 x6 y0 y1 y2 g0 g1 g2 z0 z1 z2 f0 f1 f2 hB
    obtain ⟨⟨x0, x1, x2, x3, x4, x5, x6⟩, ⟨⟨y0, y1, y2⟩, g0, g1, g2⟩, ⟨⟨z0, z1, z2⟩, f0, f1, f2⟩, hB⟩ := HT1.out.call hb
    go_wp2
    rw [HE.out]
    refine bodyPost_ret (v := .agg #[.int .i64 st.l, .int .i64 st.s, .int .i64 st.w]) (by simp [results, Try.results8, go_sem, *]) rfl ⟨rfl, ?_⟩
    (repeat (first | (with_reducible exact Below.refl _ _) | ((with_reducible refine below_alloc ?_ ?_ _); · (first | omega | (simp; done) | (simp; omega))) | ((with_reducible refine below_setCell ?_ ?_ _); · (first | omega | (simp; done) | (simp; omega))) | (with_reducible refine Below.drew ?_) | (with_reducible refine below_drewN ?_ _) | ((with_reducible refine below_call (by assumption) ?_ ?_); · (first | omega | (simp; done) | (simp; omega)))))
  | true =>
    have HE : Hid (stpL c st load now = stpC c st (hldL load 0 100) (hldL now (max st.s st.w) 1099511627776)) := Lib.hid (if_neg (by rintro (q | q); exact q hc0.out; rw [hf] at q; cases q))
    have HF := Lib.hid (finLv_iff.1 hf)
    rw [hf] at cf
    clear hf
    have htb : Hid (0 ≤ hldL now (max st.s st.w) 1099511627776 ∧ hldL now (max st.s st.w) 1099511627776 ≤ 1099511627776 ∧ st.w ≤ hldL now (max st.s st.w) 1099511627776) := Lib.hid (by have := HF.out; unfold hldL; omega)
    generalize hldL load 0 100 = n at HE cl
    generalize hldL now (max st.s st.w) 1099511627776 = t at HE cn htb
    have HEE := HE
    go_wp2_with fail
    refine (cc.out _).mono ?_; rintro e w1 ⟨rfl, hb⟩
    clear x0 x1 x2 x3 x4 x5 x6 y0 y1 y2 g0 g1 g2 z0 z1 z2 f0 f1 f2 hB
    have HT1 := Lib.hid (HT.out.call hb)
    obtain ⟨⟨x0, x1, x2, x3, x4, x5, x6⟩, ⟨⟨y0, y1, y2⟩, g0, g1, g2⟩, ⟨⟨z0, z1, z2⟩, f0, f1, f2⟩, hB⟩ := HT1.out
    clear hb HT
    go_wp2_with fail
    refine (cf.out _).mono ?_; rintro e w2 ⟨rfl, hb⟩
    clear x0 x1 x2 x3 x4 x5 x6 y0 y1 y2 g0 g1 g2 z0 z1 z2 f0 f1 f2 hB
    have HT := Lib.hid (HT1.out.call hb)
    obtain ⟨⟨x0, x1, x2, x3, x4, x5, x6⟩, ⟨⟨y0, y1, y2⟩, g0, g1, g2⟩, ⟨⟨z0, z1, z2⟩, f0, f1, f2⟩, hB⟩ := HT.out
    clear hb HT1 cc cf
    go_wp2_with fail
    refine (cl.out _).mono ?_; rintro e w3 ⟨rfl, rfl⟩
    go_wp2_with fail
    refine (cn.out _).mono ?_; rintro e w4 ⟨rfl, rfl⟩
    clear cl cn
    go_wp2
    clear x0 x1 x2 x3 x4 x5 x6 y0 y1 y2 g0 g1 g2 z0 z1 z2 f0 f1 f2 hB
    go_loopw [9] (fun rv wr => ∃ s' : Ls, Hid (On8 w wr c s') ∧ rv = .bool (decide (st.l < s'.l)) ∧ 0 ≤ s'.l ∧ s'.l ≤ 3 ∧ Hid (st.l ≤ s'.l ∧ (¬ st.l < s'.l → s' = st) ∧ (st.l < s'.l → s'.s = t ∧ s'.w = -1) ∧ risL c n 3 st.l = risL c n 3 s'.l)) (fun _ wr => lvlAt wr (w.heap.size + 1))
    case atStart => exact ⟨st, HT, by simp, HF.out.1.1, HF.out.1.2, Lib.hid ⟨Int.le_refl _, fun _ => rfl, fun h => absurd h (Int.lt_irrefl _), rfl⟩⟩
    case round =>
      clear HT
      obtain ⟨⟨l', s1, w1⟩, HT, rfl, h0, h3, HI⟩ := hrel
      have hwr : IntKind.i64.wrap (l' + 1) = l' + 1 := IntWalk.i64_in _ (by simp only at h0 h3; omega)
      simp only at h0 h3
      obtain ⟨⟨x0, x1, x2, x3, x4, x5, x6⟩, ⟨⟨y0, y1, y2⟩, g0, g1, g2⟩, ⟨⟨z0, z1, z2⟩, f0, f1, f2⟩, hB⟩ := HT.out
      go_upto_region 6 with fail
      go_cut [39] (fun v wx => v = .bool (decide (l' < 3 ∧ upL c l' ≤ n)) ∧ wx = wr)
      case first =>
        have hl : l' = 0 ∨ l' = 1 ∨ l' = 2 ∨ l' = 3 := by omega
        rcases hl with rfl | rfl | rfl | rfl
        all_goals
          go_wp2
          go_meet
          exact ⟨by simp [upL], rfl⟩
      case rest =>
        obtain ⟨rfl, rfl⟩ := hcut
        by_cases hd : l' < 3 ∧ upL c l' ≤ n
        · rw [decide_eq_true hd]
          have hris := ris_go h0 hd
          have hd3 := hd.1
          clear hd
          go_wp2
          go_roundw
          case rel => exact ⟨⟨l' + 1, t, -1⟩, Lib.hid (HT.out.put _ _ _), by rw [decide_eq_true (show st.l < l' + 1 by have := HI.out.1; simp only at this; omega)], by simp only; omega, by simp only; omega, Lib.hid ⟨by have := HI.out.1; simp only at this ⊢; omega, fun h => absurd (show st.l < l' + 1 by have := HI.out.1; simp only at this; omega) h, fun _ => ⟨rfl, rfl⟩, HI.out.2.2.2.trans hris⟩⟩
          case measure => 
            have e1 := lvlAt_is HT.out.2.1.1
            have e2 := lvlAt_is (HT.out.put (l' + 1) t (-1)).2.1.1
            rw [e1, e2]
            simp only
            omega
        · rw [decide_eq_false hd]
          have hris := HI.out.2.2.2.trans (ris_end hd)
          clear hwr
          by_cases hrose : st.l < l'
          · have HR := Lib.hid (HI.out.2.2.1 hrose)
            obtain ⟨rfl, rfl⟩ : s1 = t ∧ w1 = -1 := HR.out
            have HV : Hid (stpC c st n s1 = ⟨l', s1, -1⟩) := Lib.hid (by unfold stpC; rw [hris, if_pos hrose])
            rw [decide_eq_true hrose]
            clear hris hd hrose HR
            go_wp2
            refine bodyPost_ret (v := .agg #[.int .i64 l', .int .i64 s1, .int .i64 (-1)]) (by simp [results, Try.results8, go_sem, *]) rfl ⟨by rw [HEE.out, HV.out], ?_⟩
            (repeat (first | (with_reducible exact Below.refl _ _) | ((with_reducible refine below_alloc ?_ ?_ _); · (first | omega | (simp; done) | (simp; omega))) | ((with_reducible refine below_setCell ?_ ?_ _); · (first | omega | (simp; done) | (simp; omega))) | (with_reducible refine Below.drew ?_) | (with_reducible refine below_drewN ?_ _) | ((with_reducible refine below_call (by assumption) ?_ ?_); · (first | omega | (simp; done) | (simp; omega)))))
          · have hs : (⟨l', s1, w1⟩ : Ls) = st := HI.out.2.1 hrose
            subst hs
            simp only at hris hrose htb HF
            rw [decide_eq_false hrose]
            have hwr2 : IntKind.i64.wrap (l' - 1) = l' - 1 := IntWalk.i64_in _ (by omega)
            have h1 : ¬ l' < risL c n 3 l' := by rw [hris]; omega
            clear hd hrose hris HI
            go_upto_region 11 with fail
            go_cut [48] (fun v wx => v = .bool (decide (l' = 0 ∨ dnL c l' ≤ n)) ∧ wx = wc)
            case first =>
              have hl : l' = 0 ∨ l' = 1 ∨ l' = 2 ∨ l' = 3 := by omega
              rcases hl with rfl | rfl | rfl | rfl
              all_goals
                go_wp2
                go_meet
                exact ⟨by simp [dnL], rfl⟩
            case rest =>
              obtain ⟨rfl, rfl⟩ := hcut
              by_cases hd : l' = 0 ∨ dnL c l' ≤ n
              · rw [decide_eq_true hd]
                have HV : Hid (stpC c ⟨l', s1, w1⟩ n t = ⟨l', s1, -1⟩) := Lib.hid (by unfold stpC; simp only; rw [if_neg h1, if_pos hd])
                go_wp2
                refine bodyPost_ret (v := .agg #[.int .i64 (l'), .int .i64 (s1), .int .i64 (-1)]) (by simp [results, Try.results8, go_sem, *]) rfl ⟨by rw [HEE.out, HV.out], ?_⟩
                (repeat (first | (with_reducible exact Below.refl _ _) | ((with_reducible refine below_alloc ?_ ?_ _); · (first | omega | (simp; done) | (simp; omega))) | ((with_reducible refine below_setCell ?_ ?_ _); · (first | omega | (simp; done) | (simp; omega))) | (with_reducible refine Below.drew ?_) | (with_reducible refine below_drewN ?_ _) | ((with_reducible refine below_call (by assumption) ?_ ?_); · (first | omega | (simp; done) | (simp; omega)))))
              · rw [decide_eq_false hd]
                obtain ⟨q1, q2, q3⟩ := htb.out
                obtain ⟨-, -, q4, q5⟩ := HF.out
                by_cases hw : w1 < 0
                · have hwt : IntKind.i64.wrap (t - t) = t - t := IntWalk.i64_in _ (by omega)
                  by_cases hh : c.h ≤ t - t
                  · have hhd : decide (c.h ≤ t - t) = true := decide_eq_true hh
                    have HV : Hid (stpC c ⟨l', s1, w1⟩ n t = ⟨l' - 1, t, -1⟩) := Lib.hid (by unfold stpC; simp only; rw [if_neg h1, if_neg hd, if_pos hw, if_pos hh])
                    go_wp2
                    refine bodyPost_ret (v := .agg #[.int .i64 (l' - 1), .int .i64 (t), .int .i64 (-1)]) (by simp [results, Try.results8, go_sem, *]) rfl ⟨by rw [HEE.out, HV.out], ?_⟩
                    (repeat (first | (with_reducible exact Below.refl _ _) | ((with_reducible refine below_alloc ?_ ?_ _); · (first | omega | (simp; done) | (simp; omega))) | ((with_reducible refine below_setCell ?_ ?_ _); · (first | omega | (simp; done) | (simp; omega))) | (with_reducible refine Below.drew ?_) | (with_reducible refine below_drewN ?_ _) | ((with_reducible refine below_call (by assumption) ?_ ?_); · (first | omega | (simp; done) | (simp; omega)))))
                  · have hhd : decide (c.h ≤ t - t) = false := decide_eq_false hh
                    have HV : Hid (stpC c ⟨l', s1, w1⟩ n t = ⟨l', s1, t⟩) := Lib.hid (by unfold stpC; simp only; rw [if_neg h1, if_neg hd, if_pos hw, if_neg hh])
                    go_wp2
                    refine bodyPost_ret (v := .agg #[.int .i64 (l'), .int .i64 (s1), .int .i64 (t)]) (by simp [results, Try.results8, go_sem, *]) rfl ⟨by rw [HEE.out, HV.out], ?_⟩
                    (repeat (first | (with_reducible exact Below.refl _ _) | ((with_reducible refine below_alloc ?_ ?_ _); · (first | omega | (simp; done) | (simp; omega))) | ((with_reducible refine below_setCell ?_ ?_ _); · (first | omega | (simp; done) | (simp; omega))) | (with_reducible refine Below.drew ?_) | (with_reducible refine below_drewN ?_ _) | ((with_reducible refine below_call (by assumption) ?_ ?_); · (first | omega | (simp; done) | (simp; omega)))))
                · have hwt : IntKind.i64.wrap (t - w1) = t - w1 := IntWalk.i64_in _ (by omega)
                  have hwd : decide (w1 < 0) = false := decide_eq_false hw
                  by_cases hh : c.h ≤ t - w1
                  · have hhd : decide (c.h ≤ t - w1) = true := decide_eq_true hh
                    have HV : Hid (stpC c ⟨l', s1, w1⟩ n t = ⟨l' - 1, t, -1⟩) := Lib.hid (by unfold stpC; simp only; rw [if_neg h1, if_neg hd, if_neg hw, if_pos hh])
                    go_wp2
                    refine bodyPost_ret (v := .agg #[.int .i64 (l' - 1), .int .i64 (t), .int .i64 (-1)]) (by simp [results, Try.results8, go_sem, *]) rfl ⟨by rw [HEE.out, HV.out], ?_⟩
                    (repeat (first | (with_reducible exact Below.refl _ _) | ((with_reducible refine below_alloc ?_ ?_ _); · (first | omega | (simp; done) | (simp; omega))) | ((with_reducible refine below_setCell ?_ ?_ _); · (first | omega | (simp; done) | (simp; omega))) | (with_reducible refine Below.drew ?_) | (with_reducible refine below_drewN ?_ _) | ((with_reducible refine below_call (by assumption) ?_ ?_); · (first | omega | (simp; done) | (simp; omega)))))
                  · have hhd : decide (c.h ≤ t - w1) = false := decide_eq_false hh
                    have HV : Hid (stpC c ⟨l', s1, w1⟩ n t = ⟨l', s1, w1⟩) := Lib.hid (by unfold stpC; simp only; rw [if_neg h1, if_neg hd, if_neg hw, if_neg hh])
                    go_wp2
                    refine bodyPost_ret (v := .agg #[.int .i64 (l'), .int .i64 (s1), .int .i64 (w1)]) (by simp [results, Try.results8, go_sem, *]) rfl ⟨by rw [HEE.out, HV.out], ?_⟩
                    (repeat (first | (with_reducible exact Below.refl _ _) | ((with_reducible refine below_alloc ?_ ?_ _); · (first | omega | (simp; done) | (simp; omega))) | ((with_reducible refine below_setCell ?_ ?_ _); · (first | omega | (simp; done) | (simp; omega))) | (with_reducible refine Below.drew ?_) | (with_reducible refine below_drewN ?_ _) | ((with_reducible refine below_call (by assumption) ?_ ?_); · (first | omega | (simp; done) | (simp; omega)))))
end Go.Proofs.Ytjnonngnkkdmdaa
