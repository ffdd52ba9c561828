/- Layer 7, the program's: contracts: closeUp, Del. -/
import Derived.Test.YtaenbnohkhmnbaaT7D
namespace Go.Proofs.Ytaenbnohkhmnbaa
open Go.RowKit
set_option linter.unusedVariables false
set_option linter.unusedSimpArgs false

theorem closeF_stop {N f : Nat} {c : Nat → Sl} {gp a : Nat} {R : (Nat → Sl) × Nat} (h : closeF N (f + 1) c gp a = some R) (hc : c a = none) : R = (c, gp) := by
  unfold closeF at h; rw [hc] at h; exact (Option.some.inj h).symm
theorem closeF_skip {N f : Nat} {c : Nat → Sl} {gp a : Nat} {R : (Nat → Sl) × Nat} {e : Ent} (h : closeF N (f + 1) c gp a = some R) (hc : c a = some e) (hd : dist N (ow N e.1) a < dist N gp a) : closeF N f c gp (nxt N a) = some R := by
  unfold closeF at h; rw [hc] at h; dsimp only at h; rw [if_pos hd] at h; exact h
theorem closeF_move {N f : Nat} {c : Nat → Sl} {gp a : Nat} {R : (Nat → Sl) × Nat} {e : Ent} (h : closeF N (f + 1) c gp a = some R) (hc : c a = some e) (hd : ¬ dist N (ow N e.1) a < dist N gp a) : closeF N f (upd c gp (some e)) a (nxt N a) = some R := by
  unfold closeF at h; rw [hc] at h; dsimp only at h; rw [if_neg hd] at h; exact h

set_option maxHeartbeats 4000000 in
theorem closeUp_any (g h N K : Nat) (c c' : Nat → Sl) (gp g' e0 F : Nat) (w : World) (H : LieT w g h N K c) (hg : gp < N) (hgs : (c gp).isSome = true) (he : e0 < N) (hce : c e0 = none) (hf : closeF N F c gp (nxt N gp) = some (c', g')) :
    Calls Try.prog 33 #[ptrV g, .int .i64 gp] w fun e w' => e = .returned (.int .i64 g') ∧ LieT w' g h N K c' ∧ g' < N ∧ But2 w w' g h := by
  have cb := behind_any g h N K c gp w H hg
  have HC := Lib.hid H
  have hN := H.hN
  have hn := nxt_lt hg
  have hne : gp ≠ e0 := by rintro rfl; rw [hce] at hgs; cases hgs
  have HE := Lib.hid (And.intro hce (And.intro hne hgs))
  have HF := Lib.hid hf
  clear H hce hne hgs hf
  go_enter Try.func33, Try.ntmps33
  go_wp2_with fail
  refine cb.mono ?_; rintro e w1 ⟨rfl, hb1⟩
  have HW1 := Lib.hid (HC.out.call hb1)
  have HB1 := Lib.hid (But2.below g h hb1)
  clear cb hb1 HC
  go_wp2
  go_loopw [1, 5] (fun x y wr => ∃ (c1 : Nat → Sl) (f p a : Nat), x = .int .i64 p ∧ y = .int .i64 a ∧ p < N ∧ a < N ∧ Hid (LieT wr g h N K c1) ∧ Hid (closeF N f c1 p a = some (c', g')) ∧ Hid (c1 e0 = none ∧ p ≠ e0 ∧ (c1 p).isSome = true) ∧ Hid (But2 w wr g h)) (fun _ y _ => dist N (intOf y).toNat e0)
  case atStart => exact ⟨c, F, gp, nxt N gp, rfl, rfl, hg, hn, HW1, HF, HE, HB1⟩
  case round =>
    clear HW1 HF HE HB1 hn hg
    obtain ⟨c1, f, p, a, rfl, rfl, hp, ha, HW, HF, HE, HB⟩ := hrel
    cases f with
    | zero => exact absurd HF.out (by simp [closeF])
    | succ f =>
    have c0 := HW.out.c0
    have k0 := HW.out.k0 a ha
    have k1 := HW.out.k1 a ha
    have k2 := HW.out.k2 a ha
    have ha' : (a : Int) < N := by omega
    cases hc : c1 a with
    | none =>
      rw [hc] at k2
      simp only [Option.isSome] at k2
      have hr := closeF_stop HF.out hc
      cases hr
      clear k0 k1 hc
      go_wp2
      go_ret
      exact ⟨rfl, HW.out, hp, HB.out⟩
    | some e =>
      rw [hc] at k0 k1 k2
      simp only [keyO, valO, Option.isSome] at k0 k1 k2
      have hks := HW.out.ks a ha
      rw [hc] at hks
      simp only [keyO] at hks
      have hae : a ≠ e0 := by rintro rfl; rw [HE.out.1] at hc; cases hc
      have hm := Lib.hid (dist_nxt ha he hae)
      have hn := nxt_lt ha
      have hol := ow_lt (N := N) (by omega) e.1
      have co := own_any g h N K c1 e.1 wr HW.out (by unfold maxLen; omega)
      have cy1 := fun W (hb : Below wr.heap.size wr W) => way_any g h N K c1 (ow N e.1) a W (HW.out.call hb) hol ha
      have cy2 := fun W (hb : Below wr.heap.size wr W) => way_any g h N K c1 p a W (HW.out.call hb) hp ha
      by_cases hd : dist N (ow N e.1) a < dist N p a
      · have HF2 := Lib.hid (closeF_skip HF.out hc hd)
        have hd' : ((dist N (ow N e.1) a : Nat) : Int) < (dist N p a : Nat) := by omega
        obtain ⟨d1, hd1⟩ : ∃ d1, dist N (ow N e.1) a = d1 := ⟨_, rfl⟩
        obtain ⟨d2, hd2⟩ : ∃ d2, dist N p a = d2 := ⟨_, rfl⟩
        rw [hd1] at hd' cy1
        rw [hd2] at hd' cy2
        clear hd hc hks hd1 hd2 hae
        go_wp2_with fail
        refine co.mono ?_; rintro e w1 ⟨rfl, hb1⟩
        go_wp2_with fail
        refine (cy1 _ hb1).mono ?_; rintro e w2 ⟨rfl, hb2⟩
        have hb2 := below_call hb2 hb1.size hb1
        go_wp2_with fail
        refine (cy2 _ hb2).mono ?_; rintro e w3 ⟨rfl, hb3⟩
        have hb3 := below_call hb3 hb2.size hb2
        have HW3 := Lib.hid (HW.out.call hb3)
        have HB3 := Lib.hid (HB.out.call hb3)
        have cn := behind_any g h N K c1 a _ HW3.out ha
        clear hb1 hb2 hb3 co cy1 cy2 c0 k0 k1 k2
        go_wp2_with fail
        refine cn.mono ?_; rintro e w4 ⟨rfl, hb4⟩
        have HW4 := Lib.hid (HW3.out.call hb4)
        have HB4 := Lib.hid (HB3.out.call hb4)
        go_wp2
        go_roundw
        case rel => exact ⟨c1, f, p, nxt N a, rfl, rfl, hp, hn, HW4, HF2, HE, HB4⟩
        case measure => have := hm.out; simp [intOf]; omega
      · have HF2 := Lib.hid (closeF_move HF.out hc hd)
        have hd' : ¬ (((dist N (ow N e.1) a : Nat) : Int) < (dist N p a : Nat)) := by omega
        have hpN : (p : Int) < N := by omega
        obtain ⟨d1, hd1⟩ : ∃ d1, dist N (ow N e.1) a = d1 := ⟨_, rfl⟩
        obtain ⟨d2, hd2⟩ : ∃ d2, dist N p a = d2 := ⟨_, rfl⟩
        rw [hd1] at hd' cy1
        rw [hd2] at hd' cy2
        have HE2 := Lib.hid (show upd c1 p (some e) e0 = none ∧ a ≠ e0 ∧ (upd c1 p (some e) a).isSome = true from
          ⟨by rw [upd_other _ _ _ (Ne.symm HE.out.2.1)]; exact HE.out.1, hae, by unfold upd; split <;> first | rfl | (rw [hc]; rfl)⟩)
        have HK := Lib.hid (And.intro hks hc)
        clear hd hc hks hd1 hd2 hae
        go_wp2_with fail
        refine co.mono ?_; rintro _ w1 ⟨rfl, hb1⟩
        go_wp2_with fail
        refine (cy1 _ hb1).mono ?_; rintro _ w2 ⟨rfl, hb2⟩
        have hb2 := below_call hb2 hb1.size hb1
        go_wp2_with fail
        refine (cy2 _ hb2).mono ?_; rintro _ w3 ⟨rfl, hb3⟩
        have hb3 := below_call hb3 hb2.size hb2
        have HW3 := Lib.hid (HW.out.call hb3)
        have HB3 := Lib.hid (HB.out.call hb3)
        have HS := Lib.hid (HW3.out.setS p (some e) hp HK.out.1)
        have c0 := HW3.out.c0
        have k0 := HW3.out.k0 a ha
        have k1 := HW3.out.k1 a ha
        have k2 := HW3.out.k2 a ha
        rw [HK.out.2] at k0 k1 k2
        simp only [keyO, valO, Option.isSome] at k0 k1 k2
        have fs := HW3.out.fs
        have p0 := HW3.out.k0 p hp
        have p1 := HW3.out.k1 p hp
        have p2 := HW3.out.k2 p hp
        clear hb1 hb2 hb3 co cy1 cy2
        go_wp2
        go_region_with (fail)
        all_goals
          have HSd := Lib.hid (HS.out.call (Below.drew (Below.refl _ _)))
          have HBd := Lib.hid ((((HB3.out.set (b := h) (o := p * 3) (.string e.1) (.inr rfl)).set (b := h) (o := p * 3 + 1) (.int .i64 e.2) (.inr rfl)).set (b := h) (o := p * 3 + 2) (.bool true) (.inr rfl)).drew)
          have cn := behind_any g h N K _ a _ HSd.out ha
          clear c0 k0 k1 k2 p0 p1 p2
          go_wp2_with fail
          refine cn.mono ?_; rintro _ w4 ⟨rfl, hb4⟩
          have HW4 := Lib.hid (HSd.out.call hb4)
          have HB4 := Lib.hid (HBd.out.call hb4)
          clear HSd HBd hb4 cn HS HB3 HW3
          go_wp2
          go_roundw
          case rel => exact ⟨_, f, a, nxt N a, rfl, rfl, ha, hn, HW4, HF2, HE2, HB4⟩
          case measure => have := hm.out; simp [intOf]; omega

theorem del_no (g h N K : Nat) (c : Nat → Sl) (k : ByteArray) (F r : Nat) (w : World) (H : LieT w g h N K c) (hk : k.size ≤ maxLen) (hf : findF c N k F (ow N k) = some (r, false)) :
    Calls Try.prog 19 #[ptrV g, .string k] w fun e w' => e = .returned (.bool false) ∧ Below w.heap.size w w' := by
  have cw := where_any g h N K c k F r false w H hk hf
  clear H hf hk
  go_enter Try.func19, Try.ntmps19
  go_wp2_with fail
  refine cw.mono ?_; rintro e w1 ⟨rfl, hb1⟩
  have hw : whereP r false = -1 := rfl
  rw [hw]
  clear hw
  go_wp2
  go_ret
  exact ⟨rfl, hb1⟩
theorem del_nil (k : ByteArray) (w : World) :
    Calls Try.prog 19 #[.pointer none, .string k] w fun e w' => e = .returned (.bool false) ∧ Below w.heap.size w w' := by
  go_enter Try.func19, Try.ntmps19
  go_wp2_with fail
  refine (where_nil k _).mono ?_; rintro e w1 ⟨rfl, hb1⟩
  go_wp2
  go_ret
  exact ⟨rfl, hb1⟩
set_option maxHeartbeats 2000000 in
theorem del_yes (g h N K : Nat) (c c' : Nat → Sl) (k : ByteArray) (F F2 r g' e0 : Nat) (w : World) (H : LieT w g h N K c) (hk : k.size ≤ maxLen) (hf : findF c N k F (ow N k) = some (r, true))
    (he : e0 < N) (hce : c e0 = none) (hcl : closeF N F2 c r (nxt N r) = some (c', g')) (hK : 1 ≤ K) :
    Calls Try.prog 19 #[ptrV g, .string k] w fun e w' => e = .returned (.bool true) ∧ LieT w' g h N (K - 1) (upd c' g' none) ∧ But2 w w' g h := by
  have cw := where_any g h N K c k F r true w H hk hf
  have hr : r < N := (findF_at _ _ (ow_lt (by have := H.hN; omega) k) hf).1
  have hrs := findF_b _ _ hf
  have cc := fun W (hb : Below w.heap.size w W) => closeUp_any g h N K c c' r g' e0 F2 W (H.call hb) hr hrs.symm he hce hcl
  have HC := Lib.hid H
  have hKl := H.hK
  have hw : IntKind.i64.wrap ((K : Int) - 1) = ((K - 1 : Nat) : Int) := by rw [IntWalk.i64_in _ (by omega)]; omega
  have hwr : whereP r true = r := rfl
  rw [hwr] at cw
  have HK1 := Lib.hid (show K - 1 ≤ 256 by omega)
  clear H hk hf hrs hce hcl hwr hK hKl
  go_enter Try.func19, Try.ntmps19
  go_wp2_with fail
  refine cw.mono ?_; rintro e w1 ⟨rfl, hb1⟩
  have H1 := HC.out.call hb1
  have c0 := H1.c0
  have HB1 := Lib.hid (But2.below g h hb1)
  have hz1 := hb1.size
  clear H1 cw
  go_wp2
  go_region_with (go_at_call 33; refine (cc _ (by (repeat (first | (with_reducible exact Below.refl _ _) | ((with_reducible refine below_alloc ?_ ?_ _); · (first | omega | (simp; done) | (simp; omega))) | ((with_reducible refine below_setCell ?_ ?_ _); · (first | omega | (simp; done) | (simp; omega))) | (with_reducible refine Below.drew ?_) | (with_reducible refine below_drewN ?_ _) | ((with_reducible refine below_call (by assumption) ?_ ?_); · (first | omega | (simp; done) | (simp; omega))))))).mono ?_; rintro _ w2 ⟨rfl, H2, hg', hB2⟩; have HB2 := Lib.hid ((HB1.out.drew).trans hB2); have d0 := H2.c0; have fs := H2.fs; have fr := H2.fr; have hgi : (g' : Int) < N := (by omega); have p0 := H2.k0 g' hg'; have p1 := H2.k1 g' hg'; have p2 := H2.k2 g' hg'; have HS := Lib.hid (H2.setS g' none hg' (by decide)); have e1 := HS.out.c1; have HT := Lib.hid (HS.out.setK (K - 1) HK1.out); clear H2 hB2)
  all_goals
    simp only [keyO, valO, Option.isSome] at e1
    go_wp2
    go_ret
    exact ⟨rfl, HT.out, ((((HB2.out.set _ (.inr rfl)).set _ (.inr rfl)).set _ (.inr rfl)).set _ (.inl rfl))⟩
end Go.Proofs.Ytaenbnohkhmnbaa
