/- Layer 16, the program's: Step. -/
import Derived.Test.YtjnonngnkkdmdaaP16R
namespace Go.Proofs.Ytjnonngnkkdmdaa
open Go.RowKit
set_option linter.unusedVariables false
set_option linter.unusedSimpArgs false

theorem low_no {c : Lc} {l n : Int} (h0 : 0 ≤ l) (h : lowL c l n = false) : l = 0 ∨ dnL c l ≤ n := by
  unfold lowL at h
  by_cases h1 : 0 < l
  · rw [decide_eq_true h1, Bool.true_and, decide_eq_false_iff_not] at h
    exact .inr (by omega)
  · exact .inl (by omega)
theorem low_yes {c : Lc} {l n : Int} (h : lowL c l n = true) : 0 < l ∧ ¬ (l = 0 ∨ dnL c l ≤ n) := by
  unfold lowL at h
  rw [Bool.and_eq_true, decide_eq_true_eq, decide_eq_true_eq] at h
  exact ⟨h.1, by omega⟩
set_option maxRecDepth 100000 in
set_option maxHeartbeats 8000000 in
theorem lpstep_any (c : Lc) (st : Ls) (load now : Int) (w : World) : Calls Try.prog 7 #[cfV c, lsV st, .int .i64 load, .int .i64 now] w fun e w' => e = .returned (lsV (stpL c st load now)) ∧ Below w.heap.size w w' := by
  have cc := Lib.hid (fun W => lpcheck_any c W)
  have cf := Lib.hid (fun W => lpfine_any st W)
  have cl := Lib.hid (fun W => lpheld_any load 0 100 (by omega) W)
  have cn := Lib.hid (fun W h => lpheld_any now (max st.s st.w) 1099511627776 h W)
  simp only [cfV, lsV] at *
  go_enter Try.func7, Try.ntmps7
  go_upto_region 1 with fail
  refine gen_world (F := fun W => On8 w W c st) On8.start (fun W T => ?_)
  have HT := Lib.hid T
  obtain ⟨⟨x0, x1, x2, x3, x4, x5, x6⟩, ⟨⟨y0, y1, y2⟩, g0, g1, g2⟩, ⟨⟨z0, z1, z2⟩, f0, f1, f2⟩, hB⟩ := T
  by_cases hc : chkLv c = 0
  case neg =>
    have HE : Hid (stpL c st load now = st) := Lib.hid (if_pos (.inl hc))
    generalize chkLv c = ce at cc hc
    have hcb : (ce != 0) = true := by simp [hc]
    clear hc
    go_wp2_with fail
    refine (cc.out _).mono ?_; rintro e w1 ⟨rfl, hb⟩
    clear x0 x1 x2 x3 x4 x5 x6 y0 y1 y2 g0 g1 g2 z0 z1 z2 f0 f1 f2 hB
    obtain ⟨⟨x0, x1, x2, x3, x4, x5, x6⟩, ⟨⟨y0, y1, y2⟩, g0, g1, g2⟩, ⟨⟨z0, z1, z2⟩, f0, f1, f2⟩, hB⟩ := HT.out.call hb
    go_wp2
    rw [HE.out]
    refine bodyPost_ret (v := .agg #[.int .i64 st.l, .int .i64 st.s, .int .i64 st.w]) (by simp [results, Try.results7, go_sem, *]) rfl ⟨rfl, ?_⟩
    (repeat (first | (with_reducible exact Below.refl _ _) | ((with_reducible refine below_alloc ?_ ?_ _); · (first | omega | (simp; done) | (simp; omega))) | ((with_reducible refine below_setCell ?_ ?_ _); · (first | omega | (simp; done) | (simp; omega))) | (with_reducible refine Below.drew ?_) | (with_reducible refine below_drewN ?_ _) | ((with_reducible refine below_call (by assumption) ?_ ?_); · (first | omega | (simp; done) | (simp; omega)))))
  have hc0 := Lib.hid hc
  rw [hc] at cc
  clear hc
  cases hf : finLv st with
  | false =>
    have HE : Hid (stpL c st load now = st) := Lib.hid (if_pos (.inr hf))
    rw [hf] at cf
    clear hf
    go_wp2_with fail
    refine (cc.out _).mono ?_; rintro e w1 ⟨rfl, hb⟩
    clear x0 x1 x2 x3 x4 x5 x6 y0 y1 y2 g0 g1 g2 z0 z1 z2 f0 f1 f2 hB
    have HT1 := Lib.hid (HT.out.call hb)
    obtain ⟨⟨x0, x1, x2, x3, x4, x5, x6⟩, ⟨⟨y0, y1, y2⟩, g0, g1, g2⟩, ⟨⟨z0, z1, z2⟩, f0, f1, f2⟩, hB⟩ := HT1.out
    clear hb
    go_wp2_with fail
    refine (cf.out _).mono ?_; rintro e w2 ⟨rfl, hb⟩
    clear x0 x1 x2 x3 x4 x5 x6 y0 y1 y2 g0 g1 g2 z0 z1 z2 f0 f1 f2 hB
    obtain ⟨⟨x0, x1, x2, x3, x4, x5, x6⟩, ⟨⟨y0, y1, y2⟩, g0, g1, g2⟩, ⟨⟨z0, z1, z2⟩, f0, f1, f2⟩, hB⟩ := HT1.out.call hb
    go_wp2
    rw [HE.out]
    refine bodyPost_ret (v := .agg #[.int .i64 st.l, .int .i64 st.s, .int .i64 st.w]) (by simp [results, Try.results7, go_sem, *]) rfl ⟨rfl, ?_⟩
    (repeat (first | (with_reducible exact Below.refl _ _) | ((with_reducible refine below_alloc ?_ ?_ _); · (first | omega | (simp; done) | (simp; omega))) | ((with_reducible refine below_setCell ?_ ?_ _); · (first | omega | (simp; done) | (simp; omega))) | (with_reducible refine Below.drew ?_) | (with_reducible refine below_drewN ?_ _) | ((with_reducible refine below_call (by assumption) ?_ ?_); · (first | omega | (simp; done) | (simp; omega)))))
  | true =>
    have HE : Hid (stpL c st load now = stpC c st (hldL load 0 100) (hldL now (max st.s st.w) 1099511627776)) := Lib.hid (if_neg (by rintro (q | q); exact q hc0.out; rw [hf] at q; cases q))
    have HF := Lib.hid (finLv_iff.1 hf)
    rw [hf] at cf
    clear hf
    have htb : Hid (0 ≤ hldL now (max st.s st.w) 1099511627776 ∧ hldL now (max st.s st.w) 1099511627776 ≤ 1099511627776 ∧ st.w ≤ hldL now (max st.s st.w) 1099511627776) := Lib.hid (by have := HF.out; unfold hldL; omega)
    have cn2 := Lib.hid (fun W => cn.out W (by have := HF.out; omega))
    clear cn
    generalize hldL load 0 100 = n at HE cl
    generalize hldL now (max st.s st.w) 1099511627776 = t at HE cn2 htb
    obtain ⟨l, s, q⟩ := st
    simp only at *
    have cr := Lib.hid (fun W => lprisen_any c l n W HF.out.1.1 HF.out.1.2)
    have ci := Lib.hid (fun W => lpislow_any c l n W HF.out.1.1 HF.out.1.2)
    have HR := Lib.hid (ris_is c n 3 l HF.out.1.1 HF.out.1.2 (by have := HF.out; omega))
    have HV0 : Hid (∀ R, risL c n 3 l = R → stpC c ⟨l, s, q⟩ n t = if l < R then ⟨R, t, -1⟩ else if l = 0 ∨ dnL c l ≤ n then ⟨l, s, -1⟩ else if c.h ≤ t - (if q < 0 then t else q) then ⟨l - 1, t, -1⟩ else ⟨l, s, if q < 0 then t else q⟩) := Lib.hid (by rintro R rfl; rfl)
    generalize hR : risL c n 3 l = R at cr HR
    have HV := Lib.hid (HV0.out R hR)
    clear hR HV0
    simp only [cfV] at *
    go_wp2_with fail
    refine (cc.out _).mono ?_; rintro e w1 ⟨rfl, hb⟩
    clear x0 x1 x2 x3 x4 x5 x6 y0 y1 y2 g0 g1 g2 z0 z1 z2 f0 f1 f2 hB
    have HT1 := Lib.hid (HT.out.call hb)
    obtain ⟨⟨x0, x1, x2, x3, x4, x5, x6⟩, ⟨⟨y0, y1, y2⟩, g0, g1, g2⟩, ⟨⟨z0, z1, z2⟩, f0, f1, f2⟩, hB⟩ := HT1.out
    clear hb HT
    go_wp2_with fail
    refine (cf.out _).mono ?_; rintro e w2 ⟨rfl, hb⟩
    clear x0 x1 x2 x3 x4 x5 x6 y0 y1 y2 g0 g1 g2 z0 z1 z2 f0 f1 f2 hB
    have HT := Lib.hid (HT1.out.call hb)
    obtain ⟨⟨x0, x1, x2, x3, x4, x5, x6⟩, ⟨⟨y0, y1, y2⟩, g0, g1, g2⟩, ⟨⟨z0, z1, z2⟩, f0, f1, f2⟩, hB⟩ := HT.out
    clear hb HT1 cc cf
    go_wp2_with fail
    refine (cl.out _).mono ?_; rintro e w3 ⟨rfl, rfl⟩
    go_wp2_with fail
    refine (cn2.out _).mono ?_; rintro e w4 ⟨rfl, rfl⟩
    clear cl cn2
    go_wp2_with fail
    refine (cr.out _).mono ?_; rintro e w5 ⟨rfl, hb⟩
    clear x0 x1 x2 x3 x4 x5 x6 y0 y1 y2 g0 g1 g2 z0 z1 z2 f0 f1 f2 hB
    have HT1 := Lib.hid (HT.out.call hb)
    obtain ⟨⟨x0, x1, x2, x3, x4, x5, x6⟩, ⟨⟨y0, y1, y2⟩, g0, g1, g2⟩, ⟨⟨z0, z1, z2⟩, f0, f1, f2⟩, hB⟩ := HT1.out
    clear hb HT cr
    by_cases hrose : l < R
    · have HW : Hid (stpL c ⟨l, s, q⟩ load now = ⟨R, t, -1⟩) := Lib.hid (HE.out.trans (HV.out.trans (if_pos hrose)))
      have hd : decide (l < R) = true := decide_eq_true hrose
      clear HV HE hrose ci HR HF htb
      go_wp2
      refine bodyPost_ret (v := .agg #[.int .i64 R, .int .i64 t, .int .i64 (-1)]) (by simp [results, Try.results7, go_sem, *]) rfl ⟨by rw [HW.out], ?_⟩
      (repeat (first | (with_reducible exact Below.refl _ _) | ((with_reducible refine below_alloc ?_ ?_ _); · (first | omega | (simp; done) | (simp; omega))) | ((with_reducible refine below_setCell ?_ ?_ _); · (first | omega | (simp; done) | (simp; omega))) | (with_reducible refine Below.drew ?_) | (with_reducible refine below_drewN ?_ _) | ((with_reducible refine below_call (by assumption) ?_ ?_); · (first | omega | (simp; done) | (simp; omega)))))
    · have hRl : R = l := by have := HR.out.1; omega
      have HV2 := Lib.hid (HE.out.trans (HV.out.trans (if_neg hrose)))
      subst hRl
      have hd : decide (R < R) = false := decide_eq_false hrose
      clear HV HE hrose HR
      cases hlow : lowL c R n with
      | false =>
        have HW := Lib.hid (HV2.out.trans (if_pos (low_no HF.out.1.1 hlow)))
        rw [hlow] at ci
        clear hlow HV2
        go_wp2_with fail
        refine (ci.out _).mono ?_; rintro e w6 ⟨rfl, hb⟩
        clear x0 x1 x2 x3 x4 x5 x6 y0 y1 y2 g0 g1 g2 z0 z1 z2 f0 f1 f2 hB
        obtain ⟨⟨x0, x1, x2, x3, x4, x5, x6⟩, ⟨⟨y0, y1, y2⟩, g0, g1, g2⟩, ⟨⟨z0, z1, z2⟩, f0, f1, f2⟩, hB⟩ := HT1.out.call hb
        clear hb ci HF htb hd
        go_wp2
        refine bodyPost_ret (v := .agg #[.int .i64 R, .int .i64 s, .int .i64 (-1)]) (by simp [results, Try.results7, go_sem, *]) rfl ⟨by rw [HW.out], ?_⟩
        (repeat (first | (with_reducible exact Below.refl _ _) | ((with_reducible refine below_alloc ?_ ?_ _); · (first | omega | (simp; done) | (simp; omega))) | ((with_reducible refine below_setCell ?_ ?_ _); · (first | omega | (simp; done) | (simp; omega))) | (with_reducible refine Below.drew ?_) | (with_reducible refine below_drewN ?_ _) | ((with_reducible refine below_call (by assumption) ?_ ?_); · (first | omega | (simp; done) | (simp; omega)))))
      | true =>
        obtain ⟨hpos, hnot⟩ := low_yes hlow
        have HV3 := Lib.hid (HV2.out.trans (if_neg hnot))
        rw [hlow] at ci
        clear hlow HV2 hnot
        have hwr : IntKind.i64.wrap (R - 1) = R - 1 := IntWalk.i64_in _ (by have := HF.out; omega)
        obtain ⟨q1, q2, q3⟩ := htb.out
        obtain ⟨q4, q5⟩ := HF.out.2.2
        go_wp2_with fail
        refine (ci.out _).mono ?_; rintro e w6 ⟨rfl, hb⟩
        clear x0 x1 x2 x3 x4 x5 x6 y0 y1 y2 g0 g1 g2 z0 z1 z2 f0 f1 f2 hB
        obtain ⟨⟨x0, x1, x2, x3, x4, x5, x6⟩, ⟨⟨y0, y1, y2⟩, g0, g1, g2⟩, ⟨⟨z0, z1, z2⟩, f0, f1, f2⟩, hB⟩ := HT1.out.call hb
        clear hb ci HF htb hd HT1
        by_cases hw : q < 0
        · have hq : q = -1 := by omega
          subst hq
          have HV4 : Hid (stpL c ⟨R, s, -1⟩ load now = if c.h ≤ 0 then ⟨R - 1, t, -1⟩ else ⟨R, s, t⟩) := Lib.hid (by have h := HV3.out; simp only [if_pos hw, Int.sub_self] at h; exact h)
          have hwt : IntKind.i64.wrap 0 = 0 := by kernel_rfl
          clear HV3 q3 q4 q5 hw q1 q2 hpos
          by_cases hh : c.h ≤ 0
          · have hhd : decide (c.h ≤ 0) = true := decide_eq_true hh
            have HW := Lib.hid (HV4.out.trans (if_pos hh))
            clear HV4 hh
            go_wp2
            refine bodyPost_ret (v := .agg #[.int .i64 (R - 1), .int .i64 t, .int .i64 (-1)]) (by simp [results, Try.results7, go_sem, *]) rfl ⟨by rw [HW.out], ?_⟩
            (repeat (first | (with_reducible exact Below.refl _ _) | ((with_reducible refine below_alloc ?_ ?_ _); · (first | omega | (simp; done) | (simp; omega))) | ((with_reducible refine below_setCell ?_ ?_ _); · (first | omega | (simp; done) | (simp; omega))) | (with_reducible refine Below.drew ?_) | (with_reducible refine below_drewN ?_ _) | ((with_reducible refine below_call (by assumption) ?_ ?_); · (first | omega | (simp; done) | (simp; omega)))))
          · have hhd : decide (c.h ≤ 0) = false := decide_eq_false hh
            have HW := Lib.hid (HV4.out.trans (if_neg hh))
            clear HV4 hh
            go_wp2
            refine bodyPost_ret (v := .agg #[.int .i64 R, .int .i64 s, .int .i64 t]) (by simp [results, Try.results7, go_sem, *]) rfl ⟨by rw [HW.out], ?_⟩
            (repeat (first | (with_reducible exact Below.refl _ _) | ((with_reducible refine below_alloc ?_ ?_ _); · (first | omega | (simp; done) | (simp; omega))) | ((with_reducible refine below_setCell ?_ ?_ _); · (first | omega | (simp; done) | (simp; omega))) | (with_reducible refine Below.drew ?_) | (with_reducible refine below_drewN ?_ _) | ((with_reducible refine below_call (by assumption) ?_ ?_); · (first | omega | (simp; done) | (simp; omega)))))
        · have HV4 : Hid (stpL c ⟨R, s, q⟩ load now = if c.h ≤ t - q then ⟨R - 1, t, -1⟩ else ⟨R, s, q⟩) := Lib.hid (by have h := HV3.out; simp only [if_neg hw] at h; exact h)
          have hwt : IntKind.i64.wrap (t - q) = t - q := IntWalk.i64_in _ (by omega)
          have hqe : (q == -1) = false := by simp; omega
          clear HV3 q3 q4 q5 hw q1 q2 hpos
          by_cases hh : c.h ≤ t - q
          · have hhd : decide (c.h ≤ t - q) = true := decide_eq_true hh
            have HW := Lib.hid (HV4.out.trans (if_pos hh))
            clear HV4 hh
            go_wp2
            refine bodyPost_ret (v := .agg #[.int .i64 (R - 1), .int .i64 t, .int .i64 (-1)]) (by simp [results, Try.results7, go_sem, *]) rfl ⟨by rw [HW.out], ?_⟩
            (repeat (first | (with_reducible exact Below.refl _ _) | ((with_reducible refine below_alloc ?_ ?_ _); · (first | omega | (simp; done) | (simp; omega))) | ((with_reducible refine below_setCell ?_ ?_ _); · (first | omega | (simp; done) | (simp; omega))) | (with_reducible refine Below.drew ?_) | (with_reducible refine below_drewN ?_ _) | ((with_reducible refine below_call (by assumption) ?_ ?_); · (first | omega | (simp; done) | (simp; omega)))))
          · have hhd : decide (c.h ≤ t - q) = false := decide_eq_false hh
            have HW := Lib.hid (HV4.out.trans (if_neg hh))
            clear HV4 hh
            go_wp2
            refine bodyPost_ret (v := .agg #[.int .i64 R, .int .i64 s, .int .i64 q]) (by simp [results, Try.results7, go_sem, *]) rfl ⟨by rw [HW.out], ?_⟩
            (repeat (first | (with_reducible exact Below.refl _ _) | ((with_reducible refine below_alloc ?_ ?_ _); · (first | omega | (simp; done) | (simp; omega))) | ((with_reducible refine below_setCell ?_ ?_ _); · (first | omega | (simp; done) | (simp; omega))) | (with_reducible refine Below.drew ?_) | (with_reducible refine below_drewN ?_ _) | ((with_reducible refine below_call (by assumption) ?_ ?_); · (first | omega | (simp; done) | (simp; omega)))))
end Go.Proofs.Ytjnonngnkkdmdaa
