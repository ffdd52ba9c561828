/- Layer 15, the program's (a wheel whose slots are maps): Go. -/
import Derived.Test.YtcanaadcjipfjaaW15R
import Derived.Deep.DeepCutAuto
namespace Go.Proofs.Ytcanaadcjipfjaa
open Go.RowKit
set_option linter.unusedVariables false
set_option linter.unusedSimpArgs false

/-- a wheel's tick is set -/
theorem LieAt.tock {w : World} {g s cap N : Nat} {ms : Nat → Nat} {now : Int} {l : List Du} (H : LieAt w g s cap ms N now l) (t : Int) : LieAt (w.setCell ⟨g, 0, none⟩ (.int .i64 t)) g s cap ms N t l := by
  have hb : ∀ b, b ≠ g → (w.setCell ⟨g, 0, none⟩ (.int .i64 t)).heap[b]? = w.heap[b]? := fun b h => Below.heap_setCell _ _ _ b h
  refine ⟨H.good, World.cell?_setCell_same _ _ _ H.tick, by rw [World.cell?_setCell_other _ _ _ _ (by simp)]; exact H.slots, by simpa using H.free, fun k hk => by rw [World.cell?_setCell_other _ _ _ _ (by intro e; cases e; exact H.gs rfl)]; exact H.at_ k hk,
    fun k hk => (H.map k hk).keep (hb _ (fun e => (H.gm k hk).1 e.symm)), H.gs, H.gm, H.mm⟩
theorem but_tock {w : World} {g s N : Nat} {ms : Nat → Nat} (t : Value) : ButC (setC g s N ms) w (w.setCell ⟨g, 0, none⟩ t) :=
  ⟨⟨rfl, rfl, rfl, by simp, fun k hk => absurd hk (by omega)⟩, fun q _ hn => Below.heap_setCell _ _ _ q (fun e => hn (by rw [e]; exact .inl rfl))⟩
theorem del_head {x : Du} {l : List Du} (h : (x :: l).Pairwise (fun a b => a.1 ≠ b.1)) : delW (x :: l) x.1 = l := by
  unfold delW
  rw [List.filter_cons_of_neg (by simp)]
  exact List.filter_eq_self.2 (fun e he => by simpa using ((List.pairwise_cons.1 h).1 e he).symm)
theorem gen_worldW {P : Program} {C : Code} {Q : Exit → Act → World → Prop} {a : Act} {W : World} (F : World → Prop) (hF : F W) (h : ∀ wt, F wt → Code.wp P C Q a wt) : Code.wp P C Q a W := h W hF
theorem keepW {w w1 w2 : World} (h1 : Below w.heap.size w w1) (h2 : Below w1.heap.size w1 w2) : Below w.heap.size w w2 := h1.trans (h2.mono h1.size)
set_option maxRecDepth 100000 in
set_option maxHeartbeats 4000000 in
theorem wgo_at (g s cap N : Nat) (ms : Nat → Nat) (now : Int) (l : List Du) (w : World) (H : LieAt w g s cap ms N now l) (hW : GoodW l now) (t2 : Int) (h1 : I64 t2) :
    Calls Try.prog 14 #[ptrW g, .int .i64 t2] w fun e w' => ∃ o, e = .returned o ∧ OwnR 62 2 duC w' w.heap.size o (goL l now t2) ∧ LieAt w' g s cap ms N (goN now t2) (goW l now t2) ∧ ButC (setC g s N ms) w w' := by
  have HH := Lib.hid H
  have t1 := H.tick
  have f1 := H.free
  by_cases hg : now < t2 ∧ t2 ≤ 1099511627776
  case neg =>
    have hgf : gone now t2 = false := by unfold gone; exact decide_eq_false hg
    have HF := Lib.hid (show goL l now t2 = [] ∧ goW l now t2 = l ∧ goN now t2 = now from ⟨by unfold goL; rw [hgf]; rfl, by unfold goW; rw [hgf]; rfl, by unfold goN; rw [hgf]; rfl⟩)
    rw [HF.out.1, HF.out.2.1, HF.out.2.2]
    by_cases q1 : t2 ≤ now
    · clear hg hgf
      go_enter Try.func14, Try.ntmps14
      go_wp2
      go_ret
      exact ⟨_, rfl, OwnR.nil _ _ _ _ _, HH.out, ButC.refl _ _⟩
    · have q2 : 1099511627776 < t2 := by omega
      clear hg hgf
      go_enter Try.func14, Try.ntmps14
      go_wp2
      go_ret
      exact ⟨_, rfl, OwnR.nil _ _ _ _ _, HH.out, ButC.refl _ _⟩
  case pos =>
    have hgt : gone now t2 = true := by unfold gone; exact decide_eq_true hg
    have q1 : ¬ t2 ≤ now := by omega
    have q2 : ¬ 1099511627776 < t2 := by omega
    obtain ⟨T, hT⟩ : ∃ T, T = l.takeWhile fun e => decide (e.2 ≤ t2) := ⟨_, rfl⟩
    obtain ⟨D, hD⟩ : ∃ D, D = l.dropWhile fun e => decide (e.2 ≤ t2) := ⟨_, rfl⟩
    have hTD : T ++ D = l := by rw [hT, hD]; exact List.takeWhile_append_dropWhile
    have HF := Lib.hid (show goL l now t2 = T ∧ goW l now t2 = D ∧ goN now t2 = t2 from ⟨by unfold goL; rw [if_pos hgt, hT], by unfold goW; rw [if_pos hgt, hD], by unfold goN; rw [if_pos hgt]⟩)
    rw [HF.out.1, HF.out.2.1, HF.out.2.2]
    have cU := Lib.hid (wupto_at g s cap N ms now l w H hW t2 ⟨by omega, by omega⟩)
    rw [← hT] at cU
    have hlen : T.length ≤ 256 := by
      have h1 := good_len H.good.1
      rw [← hTD, List.length_append] at h1
      omega
    have hN1 := H.good.2.1
    have hU := Lib.hid H.good.1
    have hNow := Lib.hid hW.t
    have hC : Hid (∀ b, setC g s N ms b → b < w.heap.size) := Lib.hid (by
      intro b hb
      rcases hb with rfl | rfl | ⟨k, hk, rfl⟩
      · exact World.block_lt_of_cell? _ _ HH.out.tick
      · exact World.block_lt_of_cell? _ _ (HH.out.at_ 0 (by have := HH.out.good.2.1; omega))
      · exact (HH.out.map k hk).lt)
    have HTD := Lib.hid hTD
    clear hg hgt H hT hD hTD hW
    go_enter Try.func14, Try.ntmps14
    go_wp2_with fail
    refine cU.out.mono ?_; rintro e w1 ⟨o, rfl, ho, hb1⟩
    have HO1 := Lib.hid ho
    obtain ⟨p, c, rfl⟩ := ho.form
    have HL1 := Lib.hid (show LieAt w1 g s cap ms N now (T.drop 0 ++ D) from by rw [List.drop_zero, HTD.out]; exact HH.out.call hb1)
    have HB1 := Lib.hid (ButC.below (setC g s N ms) hb1)
    clear ho hb1 t1 f1 cU
    go_wp2
    go_loopw [27] (fun i wr => ∃ k : Nat, i = .int .i64 k ∧ k ≤ T.length ∧ Hid (LieAt wr g s cap ms N now (T.drop k ++ D)) ∧ Hid (OwnR 62 2 duC wr w.heap.size (.slice p T.length c) T) ∧ Hid (ButC (setC g s N ms) w wr)) (fun i _ => T.length - (intOf i).toNat)
    case atStart => exact ⟨0, rfl, Nat.zero_le _, HL1, HO1, HB1⟩
    case round =>
      clear HL1 HO1 HB1
      obtain ⟨k, rfl, hk, HL, HO, HB⟩ := hrel
      by_cases hlt : k < T.length
      · have hlt' : (k : Int) < T.length := by omega
        obtain ⟨bb, off, ep, g0⟩ := (show ∃ b off, p = some ⟨b, off, none⟩ ∧ ∀ c u, (duC T[k])[c]? = some u → wr.cell? ⟨b, off + k * 2 + c, none⟩ = some u by
          obtain ⟨p', cp, e, _, h⟩ := HO.out.reads duC_len
          simp only [Value.slice.injEq] at e
          obtain ⟨rfl, -, -⟩ := e
          exact h k hlt)
        subst ep
        have d0 := g0 0 _ rfl
        have d1 := g0 1 _ rfl
        rw [Nat.add_zero] at d0
        have hdr : T.drop k ++ D = T[k] :: (T.drop (k + 1) ++ D) := by rw [List.drop_eq_getElem_cons hlt]; rfl
        have hsub : (T.drop k ++ D).Sublist l := by rw [← HTD.out, ← List.drop_append_of_le_length hk]; exact List.drop_sublist k _
        have hin : T[k] ∈ T.drop k ++ D := by rw [hdr]; exact List.mem_cons_self
        have hr := hU.out.r _ (hsub.subset hin)
        have hdel : delW (T.drop k ++ D) T[k].1 = T.drop (k + 1) ++ D := by
          rw [hdr]
          exact del_head (by rw [← hdr]; exact hU.out.u.sublist hsub)
        have HX := Lib.hid (show (T[k].1, T[k].2) ∈ T.drop k ++ D from hin)
        have HDel := Lib.hid hdel
        generalize T[k].1 = id at d0 HX HDel hr
        generalize T[k].2 = a at d1 HX hr
        obtain ⟨j, hj, hjN⟩ := slot_of hN1 (a := a)
        have hmj : ms j < w.heap.size := hC.out _ (.inr (.inr ⟨j, hjN, rfl⟩))
        have hwr := HB.out.size
        have hid : I64 id := by obtain ⟨⟨q1, q2⟩, -⟩ := hr; exact ⟨by omega, by omega⟩
        have cS := Lib.hid (fun W hL => wslot_at g s cap N ms now (T.drop k ++ D) W hL a ⟨by omega, by omega⟩ j hj)
        have HJ := Lib.hid hj
        clear g0 hdr hsub hin hr hdel hj
        go_upto_region 7 with fail
        refine gen_worldW (F := fun W => (W.cell? ⟨wr.heap.size, 0, none⟩ = some (.int .i64 id) ∧ W.cell? ⟨wr.heap.size, 1, none⟩ = some (.int .i64 a)) ∧ Below wr.heap.size wr W) ⟨by simp [go_sem], by (repeat (first | (with_reducible exact Below.refl _ _) | ((with_reducible refine below_alloc ?_ ?_ _); · (first | omega | (simp; done) | (simp; omega))) | ((with_reducible refine below_setCell ?_ ?_ _); · (first | omega | (simp; done) | (simp; omega))) | (with_reducible refine Below.drew ?_) | (with_reducible refine below_drewN ?_ _) | ((with_reducible refine below_call (by assumption) ?_ ?_); · (first | omega | (simp; done) | (simp; omega)))))⟩ (fun wt hF => ?_)
        obtain ⟨hS, hBt⟩ := hF
        have HLt := Lib.hid (fun W (h : Below wt.heap.size wt W) => (HL.out.call hBt).call h)
        have hsz : wr.heap.size < wt.heap.size := World.block_lt_of_cell? _ _ hS.1
        have hout : Hid (∀ W, Below wt.heap.size wt W → W.cell? ⟨wr.heap.size, 0, none⟩ = some (.int .i64 id) ∧ W.cell? ⟨wr.heap.size, 1, none⟩ = some (.int .i64 a)) := Lib.hid (fun W h => ⟨(h.cell (p := ⟨wr.heap.size, 0, none⟩) hsz).trans hS.1, (h.cell (p := ⟨wr.heap.size, 1, none⟩) hsz).trans hS.2⟩)
        have hkp : Hid (∀ W W', Below wt.heap.size wt W → W.grownBy W' (some (ms j)) → W'.cell? ⟨wr.heap.size, 0, none⟩ = some (.int .i64 id) ∧ W'.cell? ⟨wr.heap.size, 1, none⟩ = some (.int .i64 a)) := Lib.hid (fun W W' h hgr => by
          have hs := h.size
          have hn : (some wr.heap.size : Option Nat) ≠ some (ms j) := fun e => by have := Option.some.inj e; omega
          obtain ⟨k0, k1⟩ := hout.out W h
          exact ⟨(World.cell?_of_block (w := W) (a := ⟨wr.heap.size, 0, none⟩) (hgr.block wr.heap.size (by omega) hn)).trans k0, (World.cell?_of_block (w := W) (a := ⟨wr.heap.size, 1, none⟩) (hgr.block wr.heap.size (by omega) hn)).trans k1⟩)
        have HBt := Lib.hid hBt
        have hT0 : Below wt.heap.size wt wt.drew := Below.drew (Below.refl _ _)
        clear hS hBt d0 d1
        refine wp_region_held_drew (S := fun W => W.cell? ⟨wr.heap.size, 0, none⟩ = some (.int .i64 id) ∧ W.cell? ⟨wr.heap.size, 1, none⟩ = some (.int .i64 a)) (by kernel_rfl) (hout.out _ (by assumption)) (fun hHeld => ?_)
        (refine wpAnyH_take (i := 0) (v := ?_) rfl (by kernel_rfl) (by kernel_rfl) (by kernel_rfl) (fun _ _ _ h => h) (Or.inl ⟨by rfl, ?_⟩) (by assumption) ?_; rotate_left 1; (focus (intro wz hz; (try dsimp only at hz); (try simp only [List.getElem_toArray, List.getElem_cons_succ, List.getElem_cons_zero]); go_simp; (try (rw [if_neg (by (try simp only [ByteArray.size_append]); omega)])); try (with_reducible rfl); done)))
        try simp only [Act.put, List.getElem_toArray, List.getElem_cons_succ, List.getElem_cons_zero, List.setIfInBounds_toArray, List.set_cons_zero, List.set_cons_succ]
        (refine wpAnyH_take (i := 1) (v := ?_) rfl (by kernel_rfl) (by kernel_rfl) (by kernel_rfl) (fun _ _ _ h => h) (Or.inl ⟨by rfl, ?_⟩) (by assumption) ?_; rotate_left 1; (focus (intro wz hz; (try dsimp only at hz); (try simp only [List.getElem_toArray, List.getElem_cons_succ, List.getElem_cons_zero]); go_simp; (try (rw [if_neg (by (try simp only [ByteArray.size_append]); omega)])); try (with_reducible rfl); done)))
        try simp only [Act.put, List.getElem_toArray, List.getElem_cons_succ, List.getElem_cons_zero, List.setIfInBounds_toArray, List.set_cons_zero, List.set_cons_succ]
        (refine wpAnyH_take (i := 4) (v := ?_) rfl (by kernel_rfl) (by kernel_rfl) (by kernel_rfl) (fun _ _ _ h => h) (Or.inl ⟨by rfl, ?_⟩) (by assumption) ?_; rotate_left 1; (focus (intro wz hz; (try dsimp only at hz); (try simp only [List.getElem_toArray, List.getElem_cons_succ, List.getElem_cons_zero]); go_simp; (try (rw [if_neg (by (try simp only [ByteArray.size_append]); omega)])); try (with_reducible rfl); done)))
        try simp only [Act.put, List.getElem_toArray, List.getElem_cons_succ, List.getElem_cons_zero, List.setIfInBounds_toArray, List.set_cons_zero, List.set_cons_succ]
        (refine wpAnyH_take (i := 2) (v := ?_) rfl (by kernel_rfl) (by kernel_rfl) (by kernel_rfl) (fun _ _ _ h => h) (Or.inl ⟨by rfl, ?_⟩) (by assumption) ?_; rotate_left 1; (focus (intro wz hz; (try dsimp only at hz); (try simp only [List.getElem_toArray, List.getElem_cons_succ, List.getElem_cons_zero]); go_simp; (try (rw [if_neg (by (try simp only [ByteArray.size_append]); omega)])); try (with_reducible rfl); done)))
        try simp only [Act.put, List.getElem_toArray, List.getElem_cons_succ, List.getElem_cons_zero, List.setIfInBounds_toArray, List.set_cons_zero, List.set_cons_succ]
        (refine wpAnyH_take (i := 5) (v := ?_) rfl (by kernel_rfl) (by kernel_rfl) (by kernel_rfl) (fun _ _ _ h => h) (Or.inl ⟨by rfl, ?_⟩) (by assumption) ?_; rotate_left 1; (focus (intro wz hz; (try dsimp only at hz); (try simp only [List.getElem_toArray, List.getElem_cons_succ, List.getElem_cons_zero]); go_simp; (try (rw [if_neg (by (try simp only [ByteArray.size_append]); omega)])); try (with_reducible rfl); done)))
        try simp only [Act.put, List.getElem_toArray, List.getElem_cons_succ, List.getElem_cons_zero, List.setIfInBounds_toArray, List.set_cons_zero, List.set_cons_succ]
        (refine wpAnyH_ready (rs := [3]) (by kernel_rfl) (by simp) ?_; refine AllReadyH.cons rfl (fun K hK => ?_) AllReadyH.nil; (try simp only [List.getElem_toArray, List.getElem_cons_succ, List.getElem_cons_zero]); go_simp; go_at_call 29; refine (cS.out _ (HLt.out _ (by assumption))).mono ?_; rintro e wn3 ⟨rfl, hbn3⟩; have hT3 := keepW (by assumption) hbn3; (try (go_wp2_with fail)); refine hK.out _ _ (hout.out _ (by assumption)) (fun hHeld => ?_); clear hK K)
        try simp only [Act.put, List.getElem_toArray, List.getElem_cons_succ, List.getElem_cons_zero, List.setIfInBounds_toArray, List.set_cons_zero, List.set_cons_succ]
        (refine wpAnyH_ready (rs := [6]) (by kernel_rfl) (by simp) ?_; refine AllReadyH.cons rfl (fun K hK => ?_) AllReadyH.nil; (try simp only [List.getElem_toArray, List.getElem_cons_succ, List.getElem_cons_zero]); rw [if_pos (by rfl)]; refine op_delM _ (.tmp 34) (.tmp 36) rfl lays_map (by simp [Act.eval, Act.put]) ((HLt.out _ (by assumption)).map j hjN) id hid (by simp [Act.eval, Act.put]) ?_; intro w6 h6 hg6; clear hHeld; refine hK.out _ _ (hkp.out _ _ (by assumption) hg6) (fun hHeld => ?_); clear hK K)
        try simp only [Act.put, List.getElem_toArray, List.getElem_cons_succ, List.getElem_cons_zero, List.setIfInBounds_toArray, List.set_cons_zero, List.set_cons_succ]
        refine wpAnyH_done (by kernel_rfl) ?_ _
        clear hHeld
        have HL6 := Lib.hid ((HLt.out _ hT3).struck HX.out HJ.out hjN h6 hg6)
        rw [HDel.out] at HL6
        have hB6 : ButC (setC g s N ms) wr w6 := ((ButC.below _ (keepW (HBt.out) (by assumption))).trans (fun b h => .inl h) (but_map hjN hg6))
        have hfar : FarC (setC g s N ms) (.slice (some ⟨bb, off, none⟩) T.length c) := far_new HO.out hC.out
        have HO6 := Lib.hid (show OwnR 62 2 duC w6 w.heap.size (.slice (some ⟨bb, off, none⟩) T.length c) T from row_but HO.out hfar hB6)
        have HB6 := Lib.hid (HB.out.trans (fun b h => .inl h) hB6)
        clear h6 hg6 hB6 hfar
        go_wp2
        go_roundw
        case rel => exact ⟨k + 1, by go_num, by omega, HL6, HO6, HB6⟩
        case measure => simp [intOf]; omega
      · obtain rfl : k = T.length := by omega
        have HE := Lib.hid (show LieAt wr g s cap ms N now D from by have := HL.out; rwa [List.drop_length, List.nil_append] at this)
        have t1 := HE.out.tick
        have f1 := HE.out.free
        have HT := Lib.hid (HE.out.tock t2)
        have hfar : FarC (setC g s N ms) (.slice p T.length c) := far_new HO.out hC.out
        have HO6 := Lib.hid (row_but HO.out hfar (but_tock (w := wr) (g := g) (s := s) (N := N) (ms := ms) (.int .i64 t2)))
        have HB6 := Lib.hid (HB.out.trans (fun b h => .inl h) (but_tock (w := wr) (g := g) (s := s) (N := N) (ms := ms) (.int .i64 t2)))
        clear hfar
        go_wp2
        go_ret
        exact ⟨_, rfl, HO6.out, HT.out, HB6.out⟩
end Go.Proofs.Ytcanaadcjipfjaa
