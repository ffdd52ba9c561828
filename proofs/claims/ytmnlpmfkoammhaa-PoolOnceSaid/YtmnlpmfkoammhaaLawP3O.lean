/- PoolOnce: no handle is ever handed out twice; a live one keeps its value, and is the only one of its cell; there are never more than there are cells, and when there are as many, no more are handed out: the statement holds for every input. No condition. -/
import Derived.Test.YtmnlpmfkoammhaaLawKit
import Derived.Test.YtmnlpmfkoammhaaLawOpenS
import Derived.Test.YtmnlpmfkoammhaaP5S
import Derived.Deep.RegionHeld3
import Derived.Deep.DrawnRows
import Derived.Deep.DeepCutAuto
namespace Go.Proofs.Ytmnlpmfkoammhaa
open Go.RowKit Go.ChangeShapes Go.WideShapes Go.ChangeAt
set_option linter.unusedVariables false
set_option linter.unusedSimpArgs false
attribute [local go_sem ↓] Go.wp_at_zero Go.wp_at_succ

theorem gen_world {P : Program} {C : Code} {Q : Exit → Act → World → Prop} {a : Act} {W : World} (F : World → Prop) (hF : F W) (h : ∀ wt, F wt → Code.wp P C Q a wt) : Code.wp P C Q a W := h W hF
set_option maxRecDepth 100000 in
set_option maxHeartbeats 32000000 in
theorem ponce_walk (c : Int) (vl : Value) (l : List Int) (w : World) (hc0 : 0 ≤ c) (hc1 : c ≤ 255) (hv : IsIk .u8 w vl l) (hll : l.length ≤ maxLen) (hlb : ∀ x ∈ l, 0 ≤ x ∧ x ≤ 255) :
    Calls Try.prog 5 #[.int .u8 c, vl] w fun e w' => e = .returned (.bool true) ∧ Below w.heap.size w w' := by
  unfold maxLen at hll
  obtain ⟨pl, cl, rfl, hp⟩ := hv
  have HP := Lib.hid hp
  clear hp
  by_cases hbig : (150 : Int) < l.length
  · go_enter Try.func5, Try.ntmps5
    go_wp2_with (go_at_call 8; refine (awake_any _).mono ?_; rintro e w1 ⟨rfl, hb1⟩)
    go_ret
    exact ⟨rfl, hb1⟩
  · have hsm : (l.length : Int) ≤ 150 := by omega
    clear hbig
    obtain ⟨M, hM⟩ : ∃ M : Nat, (M : Int) = c % 64 := ⟨(c % 64).toNat, by omega⟩
    have htc : Int.tmod c 64 = (M : Int) := by rw [hM]; exact Int.tmod_eq_emod_of_nonneg hc0
    have hM0 : (0 : Int) ≤ M := by omega
    have hM1 : (M : Int) ≤ 63 := by omega
    obtain ⟨N, hN⟩ : ∃ N : Nat, 1 + (M : Int) = N := ⟨1 + M, by omega⟩
    have hN1 : 1 ≤ N := by omega
    have hN2 : N ≤ 64 := by omega
    have hnew := (new_ok (n := (N : Int)) (by omega) (by omega)).1
    have hah := once_new hN1 hN2
    have c1 := fun W => new_any (N : Int) W
    rw [hnew] at c1 hah
    obtain ⟨st0, hst0⟩ : ∃ s : St, (List.replicate (N : Int).toNat zeroC, freeL (N : Int) (N : Int).toNat) = s := ⟨_, rfl⟩
    rw [hst0] at c1 hah
    have HA := Lib.hid hah
    have HNN := Lib.hid (And.intro hN1 hN2)
    have HLB := Lib.hid hlb
    clear hM hnew hst0 hah hN1 hN2 hc0 hc1 hlb
    go_enter Try.func5, Try.ntmps5
    go_wp2_with fail
    refine (c1 _).mono ?_; rintro e w1 ⟨vc1, vf1, rfl, s1, k1, hb1⟩
    obtain ⟨⟨p1, cc1, rfl, -⟩, ⟨q1, dd1, rfl, -⟩⟩ := id s1
    have S1 := Lib.hid s1
    have K1 := Lib.hid k1
    have hz1 := hb1.size
    clear s1 k1 c1
    go_wp2_with fail
    go_loopw [8, 9, 10, 11] (fun v8 v9 v10 i wr => ∃ (k : Nat) (st : St) (live all has : List Int) (p q : Option Addr) (cc dd : Nat), i = .int .i64 k ∧ k ≤ l.length ∧ all.length ≤ k ∧ OnceInv N k st live all has ∧ wr.heap[w1.heap.size]? = some (.cells #[.slice p st.1.length cc, .slice q st.2.length dd] 30) ∧ IsSt wr (.slice p st.1.length cc) (.slice q st.2.length dd) st ∧ CapOk (.slice q st.2.length dd) ∧ Rows3 wr (w1.heap.size + 1) v8 v9 v10 live all has ∧ Below w.heap.size w wr) (fun _ _ _ i _ => l.length - (intOf i).toNat)
    case atStart => exact ⟨0, st0, [], [], [], p1, q1, cc1, dd1, rfl, by omega, by simp, HA.out, heap_alloc_new _ _, S1.out.call ((Below.refl _ _).alloc (Nat.le_refl _) _), K1.out, Rows3.nil _ _, by (repeat (first | (with_reducible exact Below.refl _ _) | ((with_reducible refine below_alloc ?_ ?_ _); · (first | omega | (simp; done) | (simp; omega))) | ((with_reducible refine below_setCell ?_ ?_ _); · (first | omega | (simp; done) | (simp; omega))) | (with_reducible refine Below.drew ?_) | (with_reducible refine below_drewN ?_ _) | ((with_reducible refine below_call (by assumption) ?_ ?_); · (first | omega | (simp; done) | (simp; omega)))))⟩
    case round =>
      obtain ⟨k, st, live, all, has, p, q, cc, dd, rfl, hk, hka, hI, hbox, hst, hcap, hR, hB⟩ := hrel
      have e0 := Lib.cell_of_heap hbox 0
      have e1 := Lib.cell_of_heap hbox 1
      have ef := Lib.frozen_of_heap hbox
      have hzb : w1.heap.size < wr.heap.size := (Array.getElem?_eq_some_iff.1 hbox).1
      simp at e0 e1
      by_cases hlt : k < l.length
      · have hlt' : (k : Int) < l.length := by omega
        obtain ⟨ln1, ln2, ln3, ln4⟩ := once_lens hI
        obtain ⟨bl, ol, rfl, dl⟩ := HP.out k hlt
        have cl0 : wr.cell? ⟨bl, ol + k, none⟩ = some (.int .u8 l[k]) := (hB.cell (p := ⟨bl, ol + k, none⟩) (World.block_lt_of_cell? _ _ dl)).trans dl
        obtain ⟨hx0, hx1⟩ := HLB.out l[k] (List.getElem_mem _)
        obtain ⟨x, hx⟩ : ∃ x, l[k] = x := ⟨_, rfl⟩
        rw [hx] at cl0 hx0 hx1
        obtain ⟨r, hr⟩ : ∃ r, Int.tmod x 10 = r := ⟨_, rfl⟩
        have hr0 : 0 ≤ r ∧ r ≤ 9 := by rw [← hr, Int.tmod_eq_emod_of_nonneg hx0]; omega
        obtain ⟨dq, hdq⟩ : ∃ d, Int.tdiv x 10 = d := ⟨_, rfl⟩
        have hd0 : 0 ≤ dq ∧ dq ≤ 25 := by rw [← hdq, Int.tdiv_eq_ediv_of_nonneg hx0]; omega
        have HI := Lib.hid hI
        have HX := Lib.hid (And.intro hbox (And.intro hst (And.intro hcap hR)))
        have r1 := hR.r1; have r2 := hR.r2; have r3 := hR.r3
        obtain ⟨o8, c8, rfl⟩ := row_shape3 r1
        obtain ⟨o9, c9, rfl⟩ := row_shape3 r2
        obtain ⟨o10, c10, rfl⟩ := row_shape3 r3
        clear dl hx r1 r2 r3
        by_cases hr6 : r < 6
        · by_cases hful : live.length < N
          · obtain ⟨h, t1, t2, t3⟩ := once_take hI hful k
            have hne := (once_full hI).1 hful
            have ct := take_new (.slice p st.1.length cc) (.slice q st.2.length dd) st k wr hst hcap (by omega) (by omega) (chk_iff.2 hI.ok) (by rw [List.length_eq_zero_iff]; exact hne)
            obtain ⟨X, hX⟩ : ∃ X, (takeN st k).1 = X := ⟨_, rfl⟩
            rw [t1, hX] at ct
            rw [hX] at t3
            have hful' : (live.length : Int) < N := by omega
            have HT := Lib.hid (And.intro t2 t3)
            clear hI hbox hst hcap hR t1 t2 t3 hne hX hful
            go_wp2_with fail
            refine ct.mono ?_; rintro e w2 ⟨vc2, vf2, rfl, s2, k2, hb2, f2c, f2f⟩
            obtain ⟨⟨p2, cc2, rfl, -⟩, ⟨q2, dd2, rfl, -⟩⟩ := id s2
            obtain ⟨hk2, hf2, hz2⟩ := bcellAt (b := w1.heap.size) hzb hb2
            have hs2 := hb2.size
            have S2 := Lib.hid (And.intro s2 (And.intro k2 (And.intro f2c f2f)))
            clear s2 k2 ct f2c f2f

            go_wp2_with fail
            refine gen_world (F := fun wt => (wt.heap[w1.heap.size]? = some (.cells #[.slice p st.1.length cc, .slice q st.2.length dd] 30) ∧ wt.heap[w2.heap.size]? = some (.cells #[.slice p2 X.1.length cc2, .slice q2 X.2.length dd2] 30)) ∧ IsSt wt (.slice p2 X.1.length cc2) (.slice q2 X.2.length dd2) X ∧ Rows3 wt (w1.heap.size + 1) (.slice o8 live.length c8) (.slice o9 all.length c9) (.slice o10 has.length c10) live all has ∧ Below w.heap.size w wt ∧ w2.heap.size < wt.heap.size) ⟨⟨(heap_alloc_old _ _ hz2).trans ((hb2.block w1.heap.size hzb).trans HX.out.1), heap_alloc_new _ _⟩, S2.out.1.call ((Below.refl _ _).alloc (Nat.le_refl _) _), (HX.out.2.2.2.call hb2).alloc _, by (repeat (first | (with_reducible exact Below.refl _ _) | ((with_reducible refine below_alloc ?_ ?_ _); · (first | omega | (simp; done) | (simp; omega))) | ((with_reducible refine below_setCell ?_ ?_ _); · (first | omega | (simp; done) | (simp; omega))) | (with_reducible refine Below.drew ?_) | (with_reducible refine below_drewN ?_ _) | ((with_reducible refine below_call (by assumption) ?_ ?_); · (first | omega | (simp; done) | (simp; omega))))), by simp⟩ (fun wt hF => ?_)
            obtain ⟨⟨hbx6, hbx12⟩, hst12, hRR, hBB, hz12⟩ := hF
            have q8 : ∀ q, (Value.slice o8 live.length c8).ownBlock = some q → q < wr.heap.size := fun q e => (World.ownsRow.lt HX.out.2.2.2.r1 q e).2
            have q9 : ∀ q, (Value.slice o9 all.length c9).ownBlock = some q → q < wr.heap.size := fun q e => (World.ownsRow.lt HX.out.2.2.2.r2 q e).2
            have q10 : ∀ q, (Value.slice o10 has.length c10).ownBlock = some q → q < wr.heap.size := fun q e => (World.ownsRow.lt HX.out.2.2.2.r3 q e).2
            have HQ := Lib.hid (And.intro q8 (And.intro q9 q10))
            have HW := Lib.hid (And.intro (And.intro hbx6 hbx12) (And.intro hst12 hRR))
            have hkk : (k : Int) ≤ 150 := by omega
            have hall : all.length ≤ 150 := by omega
            have hall' : (all.length : Int) ≤ 150 := by omega
            obtain ⟨i0, hi, hj0, hj1, hj2⟩ := info_parts info_int
            clear q8 q9 q10 hbx6 hbx12 hst12 hRR hk2 hf2 e0 e1 ef
            go_loop [15] (fun j => ∃ t : Nat, j = .int .i64 t ∧ t ≤ all.length) (fun j => all.length - (intOf j).toNat)
            case atStart => exact ⟨0, rfl, by omega⟩
            case round =>
              obtain ⟨t, rfl, ht⟩ := hrel
              by_cases htl : t < all.length
              · have htl' : (t : Int) < all.length := by omega
                obtain ⟨pb, cb, eb, rb⟩ := HW.out.2.2.r2.reads
                obtain ⟨bb, ob, e1b, db⟩ := rb t htl
                subst e1b
                simp only [Value.slice.injEq] at eb
                obtain ⟨rfl, -, rfl⟩ := eb
                have hny : (all[t] == h) = false := by
                  rw [beq_eq_false_iff_ne]; intro e
                  exact HT.out.1 (e ▸ List.getElem_mem _)
                obtain ⟨y, hy⟩ : ∃ y, all[t] = y := ⟨_, rfl⟩
                rw [hy] at db hny
                clear rb hy
                go_wp2_with fail
                go_round
                case rel => exact ⟨t + 1, by go_num, by omega⟩
                case measure => simp [intOf]; omega
              · obtain rfl : t = all.length := by omega
                clear htl
                go_wp2_with (at_builtin; (conv => skip); refine stopHere ?_)
                refine And.intro ?_ trivial
                refine wpList_append_lies _ rfl _ _ 23 rfl (w1.heap.size + 1) 3 i0 (.int .i64 0) 1 8 Try.underlying23 hi hj0 hj1 hj2 rfl (by decide) (.slice o8 live.length c8) live.length (live.map (Value.int .i64)) rfl (HW.out.2.2.alloc _).r1 ⟨wt.heap.size, 0, none⟩ 1 1 [.int .i64 h] rfl rfl (World.news_of_block (heap_alloc_new wt _)) (by simp [Value.oneCell']) (by decide) (by unfold maxLen; omega) (by omega) (by simp; omega) _ rfl ?_
                intro gA cpA wA hA1 hA2 hA3 hA4
                have RA := Lib.hid ((HW.out.2.2.alloc _).grow hA1 hA2 hA3)
                have BA : Below (w1.heap.size + 1) wt wA := ((Below.refl _ _).alloc (by omega) _).grown hA2 (by simp; omega) (fun q hq => (World.ownsRow.lt HW.out.2.2.r1 q hq).1)
                have KA : Keep wr.heap.size wt wA := (Keep.below ((Below.refl _ _).alloc (Nat.le_refl _) _)).trans (Keep.grown hA2 (fun q hq => HQ.out.1 q hq))
                have hzA := KA.1
                have HKA := Lib.hid (And.intro BA KA)
                clear hA1 hA2 hA3 BA KA
                go_wp2_with (at_builtin; (conv => skip); refine stopHere ?_)
                refine And.intro ?_ trivial
                refine wpList_append_lies _ rfl _ _ 23 rfl (w1.heap.size + 1) 3 i0 (.int .i64 0) 1 8 Try.underlying23 hi hj0 hj1 hj2 rfl (by decide) (.slice o9 all.length c9) all.length (all.map (Value.int .i64)) rfl (RA.out.rot.alloc _).r1 ⟨wA.heap.size, 0, none⟩ 1 1 [.int .i64 h] rfl rfl (World.news_of_block (heap_alloc_new wA _)) (by simp [Value.oneCell']) (by decide) (by unfold maxLen; omega) (by omega) (by simp; omega) _ rfl ?_
                intro gB cpB wB hA1 hA2 hA3 hA4'
                have RB := Lib.hid ((RA.out.rot.alloc _).grow hA1 hA2 hA3)
                have BA : Below (w1.heap.size + 1) wA wB := ((Below.refl _ _).alloc (by omega) _).grown hA2 (by simp; omega) (fun q hq => (World.ownsRow.lt RA.out.rot.r1 q hq).1)
                have KA : Keep wr.heap.size wA wB := (Keep.below ((Below.refl _ _).alloc (Nat.le_refl _) _)).trans (Keep.grown hA2 (fun q hq => HQ.out.2.1 q hq))
                have hzB := KA.1
                have HKB := Lib.hid (And.intro BA KA)
                clear hA1 hA2 hA3 BA KA
                go_wp2_with (at_builtin; (conv => skip); refine stopHere ?_)
                refine And.intro ?_ trivial
                refine wpList_append_lies _ rfl _ _ 23 rfl (w1.heap.size + 1) 3 i0 (.int .i64 0) 1 8 Try.underlying23 hi hj0 hj1 hj2 rfl (by decide) (.slice o10 has.length c10) has.length (has.map (Value.int .i64)) rfl (RB.out.rot.alloc _).r1 ⟨wB.heap.size, 0, none⟩ 1 1 [.int .i64 k] rfl rfl (World.news_of_block (heap_alloc_new wB _)) (by simp [Value.oneCell']) (by decide) (by unfold maxLen; omega) (by omega) (by simp; omega) _ rfl ?_
                intro gC cpC wC hA1 hA2 hA3 hA4''
                have RC := Lib.hid ((RB.out.rot.alloc _).grow hA1 hA2 hA3).rot
                have BA : Below (w1.heap.size + 1) wB wC := ((Below.refl _ _).alloc (by omega) _).grown hA2 (by simp; omega) (fun q hq => (World.ownsRow.lt RB.out.rot.r1 q hq).1)
                have KA : Keep wr.heap.size wB wC := (Keep.below ((Below.refl _ _).alloc (Nat.le_refl _) _)).trans (Keep.grown hA2 (fun q hq => HQ.out.2.2 q hq))
                have hzC := KA.1
                have BC : Below (w1.heap.size + 1) wt wC := Below.trans HKA.out.1 (Below.trans HKB.out.1 BA)
                have KC : Keep wr.heap.size wt wC := HKA.out.2.trans (HKB.out.2.trans KA)
                have hx6 := (BC.block w1.heap.size (by omega)).trans HW.out.1.1
                have hx12 := (KC.2 w2.heap.size hs2 hz12).trans HW.out.1.2
                have hsX := HW.out.2.1.keep S2.out.2.2.1 S2.out.2.2.2 KC
                have hBC : Below w.heap.size w wC := hBB.trans (BC.mono (by have := hB.size; omega))
                have u0 := Lib.cell_of_heap hx12 0
                have u1 := Lib.cell_of_heap hx12 1
                have y0 := Lib.cell_of_heap hx6 0
                have y1 := Lib.cell_of_heap hx6 1
                have yf := Lib.frozen_of_heap hx6
                simp at u0 u1 y0 y1
                have hne12 : w2.heap.size ≠ w1.heap.size := by omega
                have hne12' : w1.heap.size ≠ w2.heap.size := by omega
                have HC := Lib.hid (And.intro hx6 hsX)
                clear hA1 hA2 hA3 BA KA BC KC hx6 hx12 hsX
                go_upto_region 33 with fail
                obtain ⟨z8, hz8⟩ : ∃ u, (some ⟨gA, 0, none⟩ : Option Addr) = u := ⟨_, rfl⟩
                obtain ⟨z9, hz9⟩ : ∃ u, (some ⟨gB, 0, none⟩ : Option Addr) = u := ⟨_, rfl⟩
                obtain ⟨z10, hz10⟩ : ∃ u, (some ⟨gC, 0, none⟩ : Option Addr) = u := ⟨_, rfl⟩
                rw [hz8, hz9, hz10] at RC
                rw [hz8, hz9, hz10]
                clear hz8 hz9 hz10
                have HINV := Lib.hid HT.out.2
                have HCAP := Lib.hid S2.out.2.1
                refine gen_world (F := fun wt => wt.heap[w1.heap.size]? = some (.cells #[(.slice p2 X.1.length cc2), (.slice q2 X.2.length dd2)] 30) ∧ IsSt wt (.slice p2 X.1.length cc2) (.slice q2 X.2.length dd2) X ∧ Rows3 wt (w1.heap.size + 1) (.slice z8 (live.length + 1) cpA) (.slice z9 (all.length + 1) cpB) (.slice z10 (has.length + 1) cpC) (live ++ [h]) (all ++ [h]) (has ++ [(k : Int)]) ∧ Below w.heap.size w wt) ⟨box_set HC.out.1 _ _, HC.out.2.far2 HC.out.1 ⟨_, _, _, rfl⟩ ⟨_, _, _, rfl⟩ _ _, (RC.out.below _ _ (by show w1.heap.size < _; omega)).below _ _ (by show w1.heap.size < _; omega), by (repeat (first | (with_reducible exact Below.refl _ _) | ((with_reducible refine below_alloc ?_ ?_ _); · (first | omega | (simp; done) | (simp; omega))) | ((with_reducible refine below_setCell ?_ ?_ _); · (first | omega | (simp; done) | (simp; omega))) | (with_reducible refine Below.drew ?_) | (with_reducible refine below_drewN ?_ _) | ((with_reducible refine below_call (by assumption) ?_ ?_); · (first | omega | (simp; done) | (simp; omega)))))⟩ (fun wt hF => ?_)
                obtain ⟨hbx, hstt, hRR, hBB⟩ := hF
                have g0 := Lib.cell_of_heap hbx 0
                have g1 := Lib.cell_of_heap hbx 1
                have gf := Lib.frozen_of_heap hbx
                have hzt : w1.heap.size < wt.heap.size := (Array.getElem?_eq_some_iff.1 hbx).1
                simp at g0 g1
                obtain ⟨o1, o2, o3, o4⟩ := once_tells HINV.out
                obtain ⟨m1, m2, m3, m4⟩ := once_lens HINV.out
                have hhl : ((has ++ [(k : Int)])).length = ((live ++ [h])).length := HINV.out.hal
                have kc := fun W (h : Fr wt W) => check_any _ _ X W (hstt.call h) (by omega) (by omega)
                rw [o1] at kc
                have ku := fun W (h : Fr wt W) => used_any _ _ X W (hstt.call h) (by omega) (by omega)
                rw [o2] at ku
                have kg := fun x W (h : Fr wt W) => get_any _ _ X x W (hstt.call h) (by omega) (by omega)
                have hn33 : ((X.1.length : Int) != N) = false := by rw [o3]; simp
                have HO4 := Lib.hid o4
                have HBX := Lib.hid (And.intro hbx (And.intro hstt hRR))
                have HHL := Lib.hid hhl
                have m5 : ((((live ++ [h])).length : Nat) : Int) ≤ 64 := by omega
                clear o1 o2 o3 o4 hbx hstt hhl
                try clear e0 e1 ef
                go_wp2_with fail
                refine (kc _ (by show Fr wt _; unfold Fr; (repeat (first | (with_reducible exact Below.refl _ _) | ((with_reducible refine below_alloc ?_ ?_ _); · (first | omega | (simp; done) | (simp; omega))) | ((with_reducible refine below_setCell ?_ ?_ _); · (first | omega | (simp; done) | (simp; omega))) | (with_reducible refine Below.drew ?_) | (with_reducible refine below_drewN ?_ _) | ((with_reducible refine below_call (by assumption) ?_ ?_); · (first | omega | (simp; done) | (simp; omega))))))).mono ?_; rintro e w7 ⟨rfl, hb7⟩
                obtain ⟨hk7, hf7, hz7⟩ := bcellAt (b := w1.heap.size) hzt hb7
                have hs7 := hb7.size
                clear kc
                go_wp2_with fail
                refine (ku _ (by show Fr wt _; unfold Fr; (repeat (first | (with_reducible exact Below.refl _ _) | ((with_reducible refine below_alloc ?_ ?_ _); · (first | omega | (simp; done) | (simp; omega))) | ((with_reducible refine below_setCell ?_ ?_ _); · (first | omega | (simp; done) | (simp; omega))) | (with_reducible refine Below.drew ?_) | (with_reducible refine below_drewN ?_ _) | ((with_reducible refine below_call (by assumption) ?_ ?_); · (first | omega | (simp; done) | (simp; omega))))))).mono ?_; rintro e w8 ⟨rfl, hb8⟩
                obtain ⟨hk8, hf8, hz8⟩ := bcellAt (b := w1.heap.size) hz7 hb8
                have hs8 := hb8.size
                have F8 : Fr wt w8 := by unfold Fr; (repeat (first | (with_reducible exact Below.refl _ _) | ((with_reducible refine below_alloc ?_ ?_ _); · (first | omega | (simp; done) | (simp; omega))) | ((with_reducible refine below_setCell ?_ ?_ _); · (first | omega | (simp; done) | (simp; omega))) | (with_reducible refine Below.drew ?_) | (with_reducible refine below_drewN ?_ _) | ((with_reducible refine below_call (by assumption) ?_ ?_); · (first | omega | (simp; done) | (simp; omega)))))
                have H8 := Lib.hid F8
                clear ku
                go_wp2_with fail
                clear hk7 hf7 hz7 hb7 hb8 hk8 hf8 hz8 g0 g1 gf hn33 F8
                go_loopw [22] (fun j wr => ∃ t : Nat, j = .int .i64 t ∧ t ≤ ((live ++ [h])).length ∧ Fr wt wr) (fun j _ => ((live ++ [h])).length - (intOf j).toNat)
                case atStart => exact ⟨0, rfl, by omega, H8.out⟩
                case round =>
                  obtain ⟨t, rfl, ht, hF⟩ := hrel
                  have hBX := HBX.out.1
                  have hbx : wr.heap[w1.heap.size]? = some (.cells #[(.slice p2 X.1.length cc2), (.slice q2 X.2.length dd2)] 30) := (Below.block hF _ hzt).trans hBX
                  have g0 := Lib.cell_of_heap hbx 0
                  have g1 := Lib.cell_of_heap hbx 1
                  simp at g0 g1
                  by_cases htl : t < ((live ++ [h])).length
                  · have htl' : (t : Int) < (((live ++ [h])).length : Nat) := by omega
                    have htl2 : (t : Int) < (((has ++ [(k : Int)])).length : Nat) := by have := HHL.out; omega
                    have htl3 : t < ((has ++ [(k : Int)])).length := by have := HHL.out; omega
                    have htl4 := htl2
                    have htl5 := htl'
                    (try simp only [List.length_append, List.length_singleton] at htl4 htl5)
                    obtain ⟨pa, ca, ea, ra⟩ := (HBX.out.2.2.r1.call hF).reads
                    obtain ⟨pb, cb, eb, rb⟩ := (HBX.out.2.2.r3.call hF).reads
                    obtain ⟨ba, oa, e1a, da⟩ := ra t htl
                    obtain ⟨bb, ob, e1b, db⟩ := rb t htl3
                    have hgt := HO4.out t htl htl3
                    obtain ⟨y, hy⟩ : ∃ y, ((live ++ [h]))[t] = y := ⟨_, rfl⟩
                    obtain ⟨z, hz⟩ : ∃ z, ((has ++ [(k : Int)]))[t] = z := ⟨_, rfl⟩
                    rw [hy] at da hgt
                    rw [hz] at db hgt
                    have kk := kg y
                    rw [hgt] at kk
                    simp only [Value.slice.injEq] at ea eb
                    obtain ⟨ep, -, ec⟩ := ea
                    obtain ⟨eq, -, ed⟩ := eb
                    clear ra rb
                    rw [e1a] at ep
                    rw [e1b] at eq
                    cases ep
                    cases eq
                    clear e1a e1b ec ed
                    have hout : ∀ w', Fr wr w' → w'.cell? ⟨w1.heap.size, 0, none⟩ = some (.slice p2 X.1.length cc2) ∧ w'.cell? ⟨w1.heap.size, 1, none⟩ = some (.slice q2 X.2.length dd2) ∧ w'.cell? ⟨ba, oa + t, none⟩ = some (.int .i64 y) := fun w' h => ⟨(Below.cell h (p := ⟨w1.heap.size, 0, none⟩) (World.block_lt_of_cell? _ _ g0)).trans g0, (Below.cell h (p := ⟨w1.heap.size, 1, none⟩) (World.block_lt_of_cell? _ _ g1)).trans g1, (Below.cell h (p := ⟨ba, oa + t, none⟩) (World.block_lt_of_cell? _ _ da)).trans da⟩
                    have F0 : Fr wr wr.drew := Below.drew (Below.refl _ _)
                    have HF := Lib.hid hF
                    have HDB := Lib.hid db
                    clear hy hz hgt g0 g1 da db hbx hBX hF
                    go_upto_region 38 with fail
                    refine wp_region_held_drew (S := fun w' => w'.cell? ⟨w1.heap.size, 0, none⟩ = some (.slice p2 X.1.length cc2) ∧ w'.cell? ⟨w1.heap.size, 1, none⟩ = some (.slice q2 X.2.length dd2) ∧ w'.cell? ⟨ba, oa + t, none⟩ = some (.int .i64 y)) (by kernel_rfl) (hout _ (by assumption)) (fun hHeld => ?_)
                    (refine wpAnyH_take (i := 0) (v := ?_) rfl (by kernel_rfl) (by kernel_rfl) (by kernel_rfl) (fun _ _ _ h => h) (Or.inl ⟨by rfl, ?_⟩) (by assumption) ?_; rotate_left 1; (focus (intro wz hz; (try dsimp only at hz); (try simp only [List.getElem_toArray, List.getElem_cons_succ, List.getElem_cons_zero]); go_simp; try (with_reducible rfl); done)))
                    try simp only [Act.put, List.getElem_toArray, List.getElem_cons_succ, List.getElem_cons_zero, List.setIfInBounds_toArray, List.set_cons_zero, List.set_cons_succ]
                    (refine wpAnyH_take (i := 1) (v := ?_) rfl (by kernel_rfl) (by kernel_rfl) (by kernel_rfl) (fun _ _ _ h => h) (Or.inl ⟨by rfl, ?_⟩) (by assumption) ?_; rotate_left 1; (focus (intro wz hz; (try dsimp only at hz); (try simp only [List.getElem_toArray, List.getElem_cons_succ, List.getElem_cons_zero]); go_simp; try (with_reducible rfl); done)))
                    try simp only [Act.put, List.getElem_toArray, List.getElem_cons_succ, List.getElem_cons_zero, List.setIfInBounds_toArray, List.set_cons_zero, List.set_cons_succ]
                    (refine wpAnyH_take (i := 2) (v := ?_) rfl (by kernel_rfl) (by kernel_rfl) (by kernel_rfl) (fun _ _ _ h => h) (Or.inl ⟨by rfl, ?_⟩) (by assumption) ?_; rotate_left 1; (focus (intro wz hz; (try dsimp only at hz); (try simp only [List.getElem_toArray, List.getElem_cons_succ, List.getElem_cons_zero]); go_simp; try (with_reducible rfl); done)))
                    try simp only [Act.put, List.getElem_toArray, List.getElem_cons_succ, List.getElem_cons_zero, List.setIfInBounds_toArray, List.set_cons_zero, List.set_cons_succ]
                    (refine wpAnyH_take (i := 3) (v := ?_) rfl (by kernel_rfl) (by kernel_rfl) (by kernel_rfl) (fun _ _ _ h => h) (Or.inl ⟨by rfl, ?_⟩) (by assumption) ?_; rotate_left 1; (focus (intro wz hz; (try dsimp only at hz); (try simp only [List.getElem_toArray, List.getElem_cons_succ, List.getElem_cons_zero]); go_simp; try (with_reducible rfl); done)))
                    try simp only [Act.put, List.getElem_toArray, List.getElem_cons_succ, List.getElem_cons_zero, List.setIfInBounds_toArray, List.set_cons_zero, List.set_cons_succ]
                    (refine wpAnyH_take (i := 4) (v := ?_) rfl (by kernel_rfl) (by kernel_rfl) (by kernel_rfl) (fun _ _ _ h => h) (Or.inl ⟨by rfl, ?_⟩) (by assumption) ?_; rotate_left 1; (focus (intro wz hz; (try dsimp only at hz); (try simp only [List.getElem_toArray, List.getElem_cons_succ, List.getElem_cons_zero]); go_simp; try (with_reducible rfl); done)))
                    try simp only [Act.put, List.getElem_toArray, List.getElem_cons_succ, List.getElem_cons_zero, List.setIfInBounds_toArray, List.set_cons_zero, List.set_cons_succ]
                    (refine wpAnyH_ready (rs := [5]) (by kernel_rfl) (by simp) ?_; refine AllReadyH.cons rfl (fun K hK => ?_) AllReadyH.nil; (try simp only [List.getElem_toArray, List.getElem_cons_succ, List.getElem_cons_zero]); go_simp; go_at_call 18; refine (kk _ (show Fr wt _ from Fr.call HF.out (by assumption))).mono ?_; rintro e wn5 ⟨rfl, hbn5⟩; have hTn5 := Fr.call (by assumption) hbn5; have hd5 := (Below.cell hTn5 (p := ⟨bb, ob + t, none⟩) (World.block_lt_of_cell? _ _ HDB.out)).trans HDB.out; have HT5 := Lib.hid hTn5; (try (go_wp2_with fail)); refine hK.out _ _ (hout _ (by assumption)) (fun hHeld => ?_); clear hK K)
                    try simp only [Act.put, List.getElem_toArray, List.getElem_cons_succ, List.getElem_cons_zero, List.setIfInBounds_toArray, List.set_cons_zero, List.set_cons_succ]
                    (refine wpAnyH_take (i := 6) (v := ?_) rfl (by kernel_rfl) (by kernel_rfl) (by kernel_rfl) (fun _ _ _ h => h) (Or.inl ⟨by rfl, ?_⟩) (by assumption) ?_; rotate_left 1; (focus (intro wz hz; (try dsimp only at hz); (try simp only [List.getElem_toArray, List.getElem_cons_succ, List.getElem_cons_zero]); go_simp; try (with_reducible rfl); done)))
                    try simp only [Act.put, List.getElem_toArray, List.getElem_cons_succ, List.getElem_cons_zero, List.setIfInBounds_toArray, List.set_cons_zero, List.set_cons_succ]
                    (refine wpAnyH_take (i := 7) (v := ?_) rfl (by kernel_rfl) (by kernel_rfl) (by kernel_rfl) (fun _ _ _ h => h) (Or.inl ⟨by rfl, ?_⟩) (by assumption) ?_; rotate_left 1; (focus (intro wz hz; (try dsimp only at hz); (try simp only [List.getElem_toArray, List.getElem_cons_succ, List.getElem_cons_zero]); go_simp; try (with_reducible rfl); done)))
                    try simp only [Act.put, List.getElem_toArray, List.getElem_cons_succ, List.getElem_cons_zero, List.setIfInBounds_toArray, List.set_cons_zero, List.set_cons_succ]
                    (refine wpAnyH_take (i := 8) (v := ?_) rfl (by kernel_rfl) (by kernel_rfl) (by kernel_rfl) (fun _ _ _ h => h) (Or.inl ⟨by rfl, ?_⟩) (by assumption) ?_; rotate_left 1; (focus (intro wz hz; (try dsimp only at hz); (try simp only [List.getElem_toArray, List.getElem_cons_succ, List.getElem_cons_zero]); go_simp; try (with_reducible rfl); done)))
                    try simp only [Act.put, List.getElem_toArray, List.getElem_cons_succ, List.getElem_cons_zero, List.setIfInBounds_toArray, List.set_cons_zero, List.set_cons_succ]
                    (refine wpAnyH_take (i := 9) (v := ?_) rfl (by kernel_rfl) (by kernel_rfl) (by kernel_rfl) (fun _ _ _ h => h) (Or.inl ⟨by rfl, ?_⟩) (by assumption) ?_; rotate_left 1; (focus (intro wz hz; (try dsimp only at hz); (try simp only [List.getElem_toArray, List.getElem_cons_succ, List.getElem_cons_zero]); go_simp; try (with_reducible rfl); done)))
                    try simp only [Act.put, List.getElem_toArray, List.getElem_cons_succ, List.getElem_cons_zero, List.setIfInBounds_toArray, List.set_cons_zero, List.set_cons_succ]
                    (refine wpAnyH_take (i := 10) (v := ?_) rfl (by kernel_rfl) (by kernel_rfl) (by kernel_rfl) (fun _ _ _ h => h) (Or.inl ⟨by rfl, ?_⟩) (by assumption) ?_; rotate_left 1; (focus (intro wz hz; (try dsimp only at hz); (try simp only [List.getElem_toArray, List.getElem_cons_succ, List.getElem_cons_zero]); go_simp; try (with_reducible rfl); done)))
                    try simp only [Act.put, List.getElem_toArray, List.getElem_cons_succ, List.getElem_cons_zero, List.setIfInBounds_toArray, List.set_cons_zero, List.set_cons_succ]
                    refine wpAnyH_done (by kernel_rfl) ?_ _
                    go_wp2
                    go_roundw
                    case rel => exact ⟨t + 1, by go_num, by omega, Fr.call HF.out HT5.out⟩
                    case measure => simp [intOf]; omega
                  · have hte : t = ((live ++ [h])).length := by omega
                    subst hte
                    have HFF := Lib.hid hF
                    clear g0 g1 hbx hBX hF htl
                    go_wp2
                    go_roundw
                    case rel => exact ⟨k + 1, X, (live ++ [h]), (all ++ [h]), (has ++ [(k : Int)]), p2, q2, cc2, dd2, by go_num, by omega, by (simp; omega), HINV.out, (Below.block HFF.out _ hzt).trans HBX.out.1, IsSt.call HBX.out.2.1 HFF.out, HCAP.out, Rows3.call HBX.out.2.2 HFF.out, Fr.fin hBB HFF.out⟩
                    case measure => simp [intOf]; omega
          · have tf := take_full hI hful k
            have ct := take_any (.slice p st.1.length cc) (.slice q st.2.length dd) st k wr hst hcap (by omega) (by omega)
            rw [tf] at ct
            have hful' : (N : Int) ≤ live.length := by omega
            clear hI hbox hst hcap hR tf hful
            go_wp2_with fail
            refine ct.mono ?_; rintro e w2 ⟨vc2, vf2, rfl, s2, k2, hb2⟩
            obtain ⟨⟨p2, cc2, rfl, -⟩, ⟨q2, dd2, rfl, -⟩⟩ := id s2
            obtain ⟨hk2, hf2, hz2⟩ := bcellAt (b := w1.heap.size) hzb hb2
            have hs2 := hb2.size
            have S2 := Lib.hid (And.intro s2 k2)
            clear s2 k2 ct
            go_upto_region 33 with fail
            have HINV := Lib.hid (once_mono HI.out)
            have HCAP := Lib.hid S2.out.2
            refine gen_world (F := fun wt => wt.heap[w1.heap.size]? = some (.cells #[(.slice p2 st.1.length cc2), (.slice q2 st.2.length dd2)] 30) ∧ IsSt wt (.slice p2 st.1.length cc2) (.slice q2 st.2.length dd2) st ∧ Rows3 wt (w1.heap.size + 1) (.slice o8 live.length c8) (.slice o9 all.length c9) (.slice o10 has.length c10) live all has ∧ Below w.heap.size w wt) ⟨(heap_alloc_old _ _ (by simp only [World.size_setCell]; omega)).trans (box_set ((hb2.block w1.heap.size hzb).trans HX.out.1) _ _), (S2.out.1.far2 ((hb2.block w1.heap.size hzb).trans HX.out.1) ⟨_, _, _, rfl⟩ ⟨_, _, _, rfl⟩ _ _).call ((Below.refl _ _).alloc (Nat.le_refl _) _), (((HX.out.2.2.2.call hb2).below _ _ (by show w1.heap.size < _; omega)).below _ _ (by show w1.heap.size < _; omega)).alloc _, by (repeat (first | (with_reducible exact Below.refl _ _) | ((with_reducible refine below_alloc ?_ ?_ _); · (first | omega | (simp; done) | (simp; omega))) | ((with_reducible refine below_setCell ?_ ?_ _); · (first | omega | (simp; done) | (simp; omega))) | (with_reducible refine Below.drew ?_) | (with_reducible refine below_drewN ?_ _) | ((with_reducible refine below_call (by assumption) ?_ ?_); · (first | omega | (simp; done) | (simp; omega)))))⟩ (fun wt hF => ?_)
            obtain ⟨hbx, hstt, hRR, hBB⟩ := hF
            have g0 := Lib.cell_of_heap hbx 0
            have g1 := Lib.cell_of_heap hbx 1
            have gf := Lib.frozen_of_heap hbx
            have hzt : w1.heap.size < wt.heap.size := (Array.getElem?_eq_some_iff.1 hbx).1
            simp at g0 g1
            obtain ⟨o1, o2, o3, o4⟩ := once_tells HINV.out
            obtain ⟨m1, m2, m3, m4⟩ := once_lens HINV.out
            have hhl : (has).length = (live).length := HINV.out.hal
            have kc := fun W (h : Fr wt W) => check_any _ _ st W (hstt.call h) (by omega) (by omega)
            rw [o1] at kc
            have ku := fun W (h : Fr wt W) => used_any _ _ st W (hstt.call h) (by omega) (by omega)
            rw [o2] at ku
            have kg := fun x W (h : Fr wt W) => get_any _ _ st x W (hstt.call h) (by omega) (by omega)
            have hn33 : ((st.1.length : Int) != N) = false := by rw [o3]; simp
            have HO4 := Lib.hid o4
            have HBX := Lib.hid (And.intro hbx (And.intro hstt hRR))
            have HHL := Lib.hid hhl
            have m5 : (((live).length : Nat) : Int) ≤ 64 := by omega
            clear o1 o2 o3 o4 hbx hstt hhl
            try clear e0 e1 ef
            go_wp2_with fail
            refine (kc _ (by show Fr wt _; unfold Fr; (repeat (first | (with_reducible exact Below.refl _ _) | ((with_reducible refine below_alloc ?_ ?_ _); · (first | omega | (simp; done) | (simp; omega))) | ((with_reducible refine below_setCell ?_ ?_ _); · (first | omega | (simp; done) | (simp; omega))) | (with_reducible refine Below.drew ?_) | (with_reducible refine below_drewN ?_ _) | ((with_reducible refine below_call (by assumption) ?_ ?_); · (first | omega | (simp; done) | (simp; omega))))))).mono ?_; rintro e w7 ⟨rfl, hb7⟩
            obtain ⟨hk7, hf7, hz7⟩ := bcellAt (b := w1.heap.size) hzt hb7
            have hs7 := hb7.size
            clear kc
            go_wp2_with fail
            refine (ku _ (by show Fr wt _; unfold Fr; (repeat (first | (with_reducible exact Below.refl _ _) | ((with_reducible refine below_alloc ?_ ?_ _); · (first | omega | (simp; done) | (simp; omega))) | ((with_reducible refine below_setCell ?_ ?_ _); · (first | omega | (simp; done) | (simp; omega))) | (with_reducible refine Below.drew ?_) | (with_reducible refine below_drewN ?_ _) | ((with_reducible refine below_call (by assumption) ?_ ?_); · (first | omega | (simp; done) | (simp; omega))))))).mono ?_; rintro e w8 ⟨rfl, hb8⟩
            obtain ⟨hk8, hf8, hz8⟩ := bcellAt (b := w1.heap.size) hz7 hb8
            have hs8 := hb8.size
            have F8 : Fr wt w8 := by unfold Fr; (repeat (first | (with_reducible exact Below.refl _ _) | ((with_reducible refine below_alloc ?_ ?_ _); · (first | omega | (simp; done) | (simp; omega))) | ((with_reducible refine below_setCell ?_ ?_ _); · (first | omega | (simp; done) | (simp; omega))) | (with_reducible refine Below.drew ?_) | (with_reducible refine below_drewN ?_ _) | ((with_reducible refine below_call (by assumption) ?_ ?_); · (first | omega | (simp; done) | (simp; omega)))))
            have H8 := Lib.hid F8
            clear ku
            go_wp2_with fail
            clear hk7 hf7 hz7 hb7 hb8 hk8 hf8 hz8 g0 g1 gf hn33 F8
            go_loopw [22] (fun j wr => ∃ t : Nat, j = .int .i64 t ∧ t ≤ (live).length ∧ Fr wt wr) (fun j _ => (live).length - (intOf j).toNat)
            case atStart => exact ⟨0, rfl, by omega, H8.out⟩
            case round =>
              obtain ⟨t, rfl, ht, hF⟩ := hrel
              have hBX := HBX.out.1
              have hbx : wr.heap[w1.heap.size]? = some (.cells #[(.slice p2 st.1.length cc2), (.slice q2 st.2.length dd2)] 30) := (Below.block hF _ hzt).trans hBX
              have g0 := Lib.cell_of_heap hbx 0
              have g1 := Lib.cell_of_heap hbx 1
              simp at g0 g1
              by_cases htl : t < (live).length
              · have htl' : (t : Int) < ((live).length : Nat) := by omega
                have htl2 : (t : Int) < ((has).length : Nat) := by have := HHL.out; omega
                have htl3 : t < (has).length := by have := HHL.out; omega
                have htl4 := htl2
                have htl5 := htl'
                (try simp only [List.length_append, List.length_singleton] at htl4 htl5)
                obtain ⟨pa, ca, ea, ra⟩ := (HBX.out.2.2.r1.call hF).reads
                obtain ⟨pb, cb, eb, rb⟩ := (HBX.out.2.2.r3.call hF).reads
                obtain ⟨ba, oa, e1a, da⟩ := ra t htl
                obtain ⟨bb, ob, e1b, db⟩ := rb t htl3
                have hgt := HO4.out t htl htl3
                obtain ⟨y, hy⟩ : ∃ y, (live)[t] = y := ⟨_, rfl⟩
                obtain ⟨z, hz⟩ : ∃ z, (has)[t] = z := ⟨_, rfl⟩
                rw [hy] at da hgt
                rw [hz] at db hgt
                have kk := kg y
                rw [hgt] at kk
                simp only [Value.slice.injEq] at ea eb
                obtain ⟨ep, -, ec⟩ := ea
                obtain ⟨eq, -, ed⟩ := eb
                clear ra rb
                rw [e1a] at ep
                rw [e1b] at eq
                cases ep
                cases eq
                clear e1a e1b ec ed
                have hout : ∀ w', Fr wr w' → w'.cell? ⟨w1.heap.size, 0, none⟩ = some (.slice p2 st.1.length cc2) ∧ w'.cell? ⟨w1.heap.size, 1, none⟩ = some (.slice q2 st.2.length dd2) ∧ w'.cell? ⟨ba, oa + t, none⟩ = some (.int .i64 y) := fun w' h => ⟨(Below.cell h (p := ⟨w1.heap.size, 0, none⟩) (World.block_lt_of_cell? _ _ g0)).trans g0, (Below.cell h (p := ⟨w1.heap.size, 1, none⟩) (World.block_lt_of_cell? _ _ g1)).trans g1, (Below.cell h (p := ⟨ba, oa + t, none⟩) (World.block_lt_of_cell? _ _ da)).trans da⟩
                have F0 : Fr wr wr.drew := Below.drew (Below.refl _ _)
                have HF := Lib.hid hF
                have HDB := Lib.hid db
                clear hy hz hgt g0 g1 da db hbx hBX hF
                go_upto_region 38 with fail
                refine wp_region_held_drew (S := fun w' => w'.cell? ⟨w1.heap.size, 0, none⟩ = some (.slice p2 st.1.length cc2) ∧ w'.cell? ⟨w1.heap.size, 1, none⟩ = some (.slice q2 st.2.length dd2) ∧ w'.cell? ⟨ba, oa + t, none⟩ = some (.int .i64 y)) (by kernel_rfl) (hout _ (by assumption)) (fun hHeld => ?_)
                (refine wpAnyH_take (i := 0) (v := ?_) rfl (by kernel_rfl) (by kernel_rfl) (by kernel_rfl) (fun _ _ _ h => h) (Or.inl ⟨by rfl, ?_⟩) (by assumption) ?_; rotate_left 1; (focus (intro wz hz; (try dsimp only at hz); (try simp only [List.getElem_toArray, List.getElem_cons_succ, List.getElem_cons_zero]); go_simp; try (with_reducible rfl); done)))
                try simp only [Act.put, List.getElem_toArray, List.getElem_cons_succ, List.getElem_cons_zero, List.setIfInBounds_toArray, List.set_cons_zero, List.set_cons_succ]
                (refine wpAnyH_take (i := 1) (v := ?_) rfl (by kernel_rfl) (by kernel_rfl) (by kernel_rfl) (fun _ _ _ h => h) (Or.inl ⟨by rfl, ?_⟩) (by assumption) ?_; rotate_left 1; (focus (intro wz hz; (try dsimp only at hz); (try simp only [List.getElem_toArray, List.getElem_cons_succ, List.getElem_cons_zero]); go_simp; try (with_reducible rfl); done)))
                try simp only [Act.put, List.getElem_toArray, List.getElem_cons_succ, List.getElem_cons_zero, List.setIfInBounds_toArray, List.set_cons_zero, List.set_cons_succ]
                (refine wpAnyH_take (i := 2) (v := ?_) rfl (by kernel_rfl) (by kernel_rfl) (by kernel_rfl) (fun _ _ _ h => h) (Or.inl ⟨by rfl, ?_⟩) (by assumption) ?_; rotate_left 1; (focus (intro wz hz; (try dsimp only at hz); (try simp only [List.getElem_toArray, List.getElem_cons_succ, List.getElem_cons_zero]); go_simp; try (with_reducible rfl); done)))
                try simp only [Act.put, List.getElem_toArray, List.getElem_cons_succ, List.getElem_cons_zero, List.setIfInBounds_toArray, List.set_cons_zero, List.set_cons_succ]
                (refine wpAnyH_take (i := 3) (v := ?_) rfl (by kernel_rfl) (by kernel_rfl) (by kernel_rfl) (fun _ _ _ h => h) (Or.inl ⟨by rfl, ?_⟩) (by assumption) ?_; rotate_left 1; (focus (intro wz hz; (try dsimp only at hz); (try simp only [List.getElem_toArray, List.getElem_cons_succ, List.getElem_cons_zero]); go_simp; try (with_reducible rfl); done)))
                try simp only [Act.put, List.getElem_toArray, List.getElem_cons_succ, List.getElem_cons_zero, List.setIfInBounds_toArray, List.set_cons_zero, List.set_cons_succ]
                (refine wpAnyH_take (i := 4) (v := ?_) rfl (by kernel_rfl) (by kernel_rfl) (by kernel_rfl) (fun _ _ _ h => h) (Or.inl ⟨by rfl, ?_⟩) (by assumption) ?_; rotate_left 1; (focus (intro wz hz; (try dsimp only at hz); (try simp only [List.getElem_toArray, List.getElem_cons_succ, List.getElem_cons_zero]); go_simp; try (with_reducible rfl); done)))
                try simp only [Act.put, List.getElem_toArray, List.getElem_cons_succ, List.getElem_cons_zero, List.setIfInBounds_toArray, List.set_cons_zero, List.set_cons_succ]
                (refine wpAnyH_ready (rs := [5]) (by kernel_rfl) (by simp) ?_; refine AllReadyH.cons rfl (fun K hK => ?_) AllReadyH.nil; (try simp only [List.getElem_toArray, List.getElem_cons_succ, List.getElem_cons_zero]); go_simp; go_at_call 18; refine (kk _ (show Fr wt _ from Fr.call HF.out (by assumption))).mono ?_; rintro e wn5 ⟨rfl, hbn5⟩; have hTn5 := Fr.call (by assumption) hbn5; have hd5 := (Below.cell hTn5 (p := ⟨bb, ob + t, none⟩) (World.block_lt_of_cell? _ _ HDB.out)).trans HDB.out; have HT5 := Lib.hid hTn5; (try (go_wp2_with fail)); refine hK.out _ _ (hout _ (by assumption)) (fun hHeld => ?_); clear hK K)
                try simp only [Act.put, List.getElem_toArray, List.getElem_cons_succ, List.getElem_cons_zero, List.setIfInBounds_toArray, List.set_cons_zero, List.set_cons_succ]
                (refine wpAnyH_take (i := 6) (v := ?_) rfl (by kernel_rfl) (by kernel_rfl) (by kernel_rfl) (fun _ _ _ h => h) (Or.inl ⟨by rfl, ?_⟩) (by assumption) ?_; rotate_left 1; (focus (intro wz hz; (try dsimp only at hz); (try simp only [List.getElem_toArray, List.getElem_cons_succ, List.getElem_cons_zero]); go_simp; try (with_reducible rfl); done)))
                try simp only [Act.put, List.getElem_toArray, List.getElem_cons_succ, List.getElem_cons_zero, List.setIfInBounds_toArray, List.set_cons_zero, List.set_cons_succ]
                (refine wpAnyH_take (i := 7) (v := ?_) rfl (by kernel_rfl) (by kernel_rfl) (by kernel_rfl) (fun _ _ _ h => h) (Or.inl ⟨by rfl, ?_⟩) (by assumption) ?_; rotate_left 1; (focus (intro wz hz; (try dsimp only at hz); (try simp only [List.getElem_toArray, List.getElem_cons_succ, List.getElem_cons_zero]); go_simp; try (with_reducible rfl); done)))
                try simp only [Act.put, List.getElem_toArray, List.getElem_cons_succ, List.getElem_cons_zero, List.setIfInBounds_toArray, List.set_cons_zero, List.set_cons_succ]
                (refine wpAnyH_take (i := 8) (v := ?_) rfl (by kernel_rfl) (by kernel_rfl) (by kernel_rfl) (fun _ _ _ h => h) (Or.inl ⟨by rfl, ?_⟩) (by assumption) ?_; rotate_left 1; (focus (intro wz hz; (try dsimp only at hz); (try simp only [List.getElem_toArray, List.getElem_cons_succ, List.getElem_cons_zero]); go_simp; try (with_reducible rfl); done)))
                try simp only [Act.put, List.getElem_toArray, List.getElem_cons_succ, List.getElem_cons_zero, List.setIfInBounds_toArray, List.set_cons_zero, List.set_cons_succ]
                (refine wpAnyH_take (i := 9) (v := ?_) rfl (by kernel_rfl) (by kernel_rfl) (by kernel_rfl) (fun _ _ _ h => h) (Or.inl ⟨by rfl, ?_⟩) (by assumption) ?_; rotate_left 1; (focus (intro wz hz; (try dsimp only at hz); (try simp only [List.getElem_toArray, List.getElem_cons_succ, List.getElem_cons_zero]); go_simp; try (with_reducible rfl); done)))
                try simp only [Act.put, List.getElem_toArray, List.getElem_cons_succ, List.getElem_cons_zero, List.setIfInBounds_toArray, List.set_cons_zero, List.set_cons_succ]
                (refine wpAnyH_take (i := 10) (v := ?_) rfl (by kernel_rfl) (by kernel_rfl) (by kernel_rfl) (fun _ _ _ h => h) (Or.inl ⟨by rfl, ?_⟩) (by assumption) ?_; rotate_left 1; (focus (intro wz hz; (try dsimp only at hz); (try simp only [List.getElem_toArray, List.getElem_cons_succ, List.getElem_cons_zero]); go_simp; try (with_reducible rfl); done)))
                try simp only [Act.put, List.getElem_toArray, List.getElem_cons_succ, List.getElem_cons_zero, List.setIfInBounds_toArray, List.set_cons_zero, List.set_cons_succ]
                refine wpAnyH_done (by kernel_rfl) ?_ _
                go_wp2
                go_roundw
                case rel => exact ⟨t + 1, by go_num, by omega, Fr.call HF.out HT5.out⟩
                case measure => simp [intOf]; omega
              · have hte : t = (live).length := by omega
                subst hte
                have HFF := Lib.hid hF
                clear g0 g1 hbx hBX hF htl
                go_wp2
                go_roundw
                case rel => exact ⟨k + 1, st, live, all, has, p2, q2, cc2, dd2, by go_num, by omega, by omega, HINV.out, (Below.block HFF.out _ hzt).trans HBX.out.1, IsSt.call HBX.out.2.1 HFF.out, HCAP.out, Rows3.call HBX.out.2.2 HFF.out, Fr.fin hBB HFF.out⟩
                case measure => simp [intOf]; omega
        · have hge6 : 6 ≤ r := by omega
          by_cases hle : live.length = 0
          · have hle' : (live.length : Int) ≤ 0 := by omega
            clear hI hbox hst hcap hR hr6 hle
            go_upto_region 33 with fail
            clear hle'
            have HINV := Lib.hid (once_mono HI.out)
            have HCAP := Lib.hid HX.out.2.2.1
            refine gen_world (F := fun wt => wt.heap[w1.heap.size]? = some (.cells #[(.slice p st.1.length cc), (.slice q st.2.length dd)] 30) ∧ IsSt wt (.slice p st.1.length cc) (.slice q st.2.length dd) st ∧ Rows3 wt (w1.heap.size + 1) (.slice o8 live.length c8) (.slice o9 all.length c9) (.slice o10 has.length c10) live all has ∧ Below w.heap.size w wt) ⟨HX.out.1, HX.out.2.1, HX.out.2.2.2, hB⟩ (fun wt hF => ?_)
            obtain ⟨hbx, hstt, hRR, hBB⟩ := hF
            have g0 := Lib.cell_of_heap hbx 0
            have g1 := Lib.cell_of_heap hbx 1
            have gf := Lib.frozen_of_heap hbx
            have hzt : w1.heap.size < wt.heap.size := (Array.getElem?_eq_some_iff.1 hbx).1
            simp at g0 g1
            obtain ⟨o1, o2, o3, o4⟩ := once_tells HINV.out
            obtain ⟨m1, m2, m3, m4⟩ := once_lens HINV.out
            have hhl : (has).length = (live).length := HINV.out.hal
            have kc := fun W (h : Fr wt W) => check_any _ _ st W (hstt.call h) (by omega) (by omega)
            rw [o1] at kc
            have ku := fun W (h : Fr wt W) => used_any _ _ st W (hstt.call h) (by omega) (by omega)
            rw [o2] at ku
            have kg := fun x W (h : Fr wt W) => get_any _ _ st x W (hstt.call h) (by omega) (by omega)
            have hn33 : ((st.1.length : Int) != N) = false := by rw [o3]; simp
            have HO4 := Lib.hid o4
            have HBX := Lib.hid (And.intro hbx (And.intro hstt hRR))
            have HHL := Lib.hid hhl
            have m5 : (((live).length : Nat) : Int) ≤ 64 := by omega
            clear o1 o2 o3 o4 hbx hstt hhl
            try clear e0 e1 ef
            go_wp2_with fail
            refine (kc _ (by show Fr wt _; unfold Fr; (repeat (first | (with_reducible exact Below.refl _ _) | ((with_reducible refine below_alloc ?_ ?_ _); · (first | omega | (simp; done) | (simp; omega))) | ((with_reducible refine below_setCell ?_ ?_ _); · (first | omega | (simp; done) | (simp; omega))) | (with_reducible refine Below.drew ?_) | (with_reducible refine below_drewN ?_ _) | ((with_reducible refine below_call (by assumption) ?_ ?_); · (first | omega | (simp; done) | (simp; omega))))))).mono ?_; rintro e w7 ⟨rfl, hb7⟩
            obtain ⟨hk7, hf7, hz7⟩ := bcellAt (b := w1.heap.size) hzt hb7
            have hs7 := hb7.size
            clear kc
            go_wp2_with fail
            refine (ku _ (by show Fr wt _; unfold Fr; (repeat (first | (with_reducible exact Below.refl _ _) | ((with_reducible refine below_alloc ?_ ?_ _); · (first | omega | (simp; done) | (simp; omega))) | ((with_reducible refine below_setCell ?_ ?_ _); · (first | omega | (simp; done) | (simp; omega))) | (with_reducible refine Below.drew ?_) | (with_reducible refine below_drewN ?_ _) | ((with_reducible refine below_call (by assumption) ?_ ?_); · (first | omega | (simp; done) | (simp; omega))))))).mono ?_; rintro e w8 ⟨rfl, hb8⟩
            obtain ⟨hk8, hf8, hz8⟩ := bcellAt (b := w1.heap.size) hz7 hb8
            have hs8 := hb8.size
            have F8 : Fr wt w8 := by unfold Fr; (repeat (first | (with_reducible exact Below.refl _ _) | ((with_reducible refine below_alloc ?_ ?_ _); · (first | omega | (simp; done) | (simp; omega))) | ((with_reducible refine below_setCell ?_ ?_ _); · (first | omega | (simp; done) | (simp; omega))) | (with_reducible refine Below.drew ?_) | (with_reducible refine below_drewN ?_ _) | ((with_reducible refine below_call (by assumption) ?_ ?_); · (first | omega | (simp; done) | (simp; omega)))))
            have H8 := Lib.hid F8
            clear ku
            go_wp2_with fail
            clear hk7 hf7 hz7 hb7 hb8 hk8 hf8 hz8 g0 g1 gf hn33 F8
            go_loopw [22] (fun j wr => ∃ t : Nat, j = .int .i64 t ∧ t ≤ (live).length ∧ Fr wt wr) (fun j _ => (live).length - (intOf j).toNat)
            case atStart => exact ⟨0, rfl, by omega, H8.out⟩
            case round =>
              obtain ⟨t, rfl, ht, hF⟩ := hrel
              have hBX := HBX.out.1
              have hbx : wr.heap[w1.heap.size]? = some (.cells #[(.slice p st.1.length cc), (.slice q st.2.length dd)] 30) := (Below.block hF _ hzt).trans hBX
              have g0 := Lib.cell_of_heap hbx 0
              have g1 := Lib.cell_of_heap hbx 1
              simp at g0 g1
              by_cases htl : t < (live).length
              · have htl' : (t : Int) < ((live).length : Nat) := by omega
                have htl2 : (t : Int) < ((has).length : Nat) := by have := HHL.out; omega
                have htl3 : t < (has).length := by have := HHL.out; omega
                have htl4 := htl2
                have htl5 := htl'
                (try simp only [List.length_append, List.length_singleton] at htl4 htl5)
                obtain ⟨pa, ca, ea, ra⟩ := (HBX.out.2.2.r1.call hF).reads
                obtain ⟨pb, cb, eb, rb⟩ := (HBX.out.2.2.r3.call hF).reads
                obtain ⟨ba, oa, e1a, da⟩ := ra t htl
                obtain ⟨bb, ob, e1b, db⟩ := rb t htl3
                have hgt := HO4.out t htl htl3
                obtain ⟨y, hy⟩ : ∃ y, (live)[t] = y := ⟨_, rfl⟩
                obtain ⟨z, hz⟩ : ∃ z, (has)[t] = z := ⟨_, rfl⟩
                rw [hy] at da hgt
                rw [hz] at db hgt
                have kk := kg y
                rw [hgt] at kk
                simp only [Value.slice.injEq] at ea eb
                obtain ⟨ep, -, ec⟩ := ea
                obtain ⟨eq, -, ed⟩ := eb
                clear ra rb
                rw [e1a] at ep
                rw [e1b] at eq
                cases ep
                cases eq
                clear e1a e1b ec ed
                have hout : ∀ w', Fr wr w' → w'.cell? ⟨w1.heap.size, 0, none⟩ = some (.slice p st.1.length cc) ∧ w'.cell? ⟨w1.heap.size, 1, none⟩ = some (.slice q st.2.length dd) ∧ w'.cell? ⟨ba, oa + t, none⟩ = some (.int .i64 y) := fun w' h => ⟨(Below.cell h (p := ⟨w1.heap.size, 0, none⟩) (World.block_lt_of_cell? _ _ g0)).trans g0, (Below.cell h (p := ⟨w1.heap.size, 1, none⟩) (World.block_lt_of_cell? _ _ g1)).trans g1, (Below.cell h (p := ⟨ba, oa + t, none⟩) (World.block_lt_of_cell? _ _ da)).trans da⟩
                have F0 : Fr wr wr.drew := Below.drew (Below.refl _ _)
                have HF := Lib.hid hF
                have HDB := Lib.hid db
                clear hy hz hgt g0 g1 da db hbx hBX hF
                go_upto_region 38 with fail
                refine wp_region_held_drew (S := fun w' => w'.cell? ⟨w1.heap.size, 0, none⟩ = some (.slice p st.1.length cc) ∧ w'.cell? ⟨w1.heap.size, 1, none⟩ = some (.slice q st.2.length dd) ∧ w'.cell? ⟨ba, oa + t, none⟩ = some (.int .i64 y)) (by kernel_rfl) (hout _ (by assumption)) (fun hHeld => ?_)
                (refine wpAnyH_take (i := 0) (v := ?_) rfl (by kernel_rfl) (by kernel_rfl) (by kernel_rfl) (fun _ _ _ h => h) (Or.inl ⟨by rfl, ?_⟩) (by assumption) ?_; rotate_left 1; (focus (intro wz hz; (try dsimp only at hz); (try simp only [List.getElem_toArray, List.getElem_cons_succ, List.getElem_cons_zero]); go_simp; try (with_reducible rfl); done)))
                try simp only [Act.put, List.getElem_toArray, List.getElem_cons_succ, List.getElem_cons_zero, List.setIfInBounds_toArray, List.set_cons_zero, List.set_cons_succ]
                (refine wpAnyH_take (i := 1) (v := ?_) rfl (by kernel_rfl) (by kernel_rfl) (by kernel_rfl) (fun _ _ _ h => h) (Or.inl ⟨by rfl, ?_⟩) (by assumption) ?_; rotate_left 1; (focus (intro wz hz; (try dsimp only at hz); (try simp only [List.getElem_toArray, List.getElem_cons_succ, List.getElem_cons_zero]); go_simp; try (with_reducible rfl); done)))
                try simp only [Act.put, List.getElem_toArray, List.getElem_cons_succ, List.getElem_cons_zero, List.setIfInBounds_toArray, List.set_cons_zero, List.set_cons_succ]
                (refine wpAnyH_take (i := 2) (v := ?_) rfl (by kernel_rfl) (by kernel_rfl) (by kernel_rfl) (fun _ _ _ h => h) (Or.inl ⟨by rfl, ?_⟩) (by assumption) ?_; rotate_left 1; (focus (intro wz hz; (try dsimp only at hz); (try simp only [List.getElem_toArray, List.getElem_cons_succ, List.getElem_cons_zero]); go_simp; try (with_reducible rfl); done)))
                try simp only [Act.put, List.getElem_toArray, List.getElem_cons_succ, List.getElem_cons_zero, List.setIfInBounds_toArray, List.set_cons_zero, List.set_cons_succ]
                (refine wpAnyH_take (i := 3) (v := ?_) rfl (by kernel_rfl) (by kernel_rfl) (by kernel_rfl) (fun _ _ _ h => h) (Or.inl ⟨by rfl, ?_⟩) (by assumption) ?_; rotate_left 1; (focus (intro wz hz; (try dsimp only at hz); (try simp only [List.getElem_toArray, List.getElem_cons_succ, List.getElem_cons_zero]); go_simp; try (with_reducible rfl); done)))
                try simp only [Act.put, List.getElem_toArray, List.getElem_cons_succ, List.getElem_cons_zero, List.setIfInBounds_toArray, List.set_cons_zero, List.set_cons_succ]
                (refine wpAnyH_take (i := 4) (v := ?_) rfl (by kernel_rfl) (by kernel_rfl) (by kernel_rfl) (fun _ _ _ h => h) (Or.inl ⟨by rfl, ?_⟩) (by assumption) ?_; rotate_left 1; (focus (intro wz hz; (try dsimp only at hz); (try simp only [List.getElem_toArray, List.getElem_cons_succ, List.getElem_cons_zero]); go_simp; try (with_reducible rfl); done)))
                try simp only [Act.put, List.getElem_toArray, List.getElem_cons_succ, List.getElem_cons_zero, List.setIfInBounds_toArray, List.set_cons_zero, List.set_cons_succ]
                (refine wpAnyH_ready (rs := [5]) (by kernel_rfl) (by simp) ?_; refine AllReadyH.cons rfl (fun K hK => ?_) AllReadyH.nil; (try simp only [List.getElem_toArray, List.getElem_cons_succ, List.getElem_cons_zero]); go_simp; go_at_call 18; refine (kk _ (show Fr wt _ from Fr.call HF.out (by assumption))).mono ?_; rintro e wn5 ⟨rfl, hbn5⟩; have hTn5 := Fr.call (by assumption) hbn5; have hd5 := (Below.cell hTn5 (p := ⟨bb, ob + t, none⟩) (World.block_lt_of_cell? _ _ HDB.out)).trans HDB.out; have HT5 := Lib.hid hTn5; (try (go_wp2_with fail)); refine hK.out _ _ (hout _ (by assumption)) (fun hHeld => ?_); clear hK K)
                try simp only [Act.put, List.getElem_toArray, List.getElem_cons_succ, List.getElem_cons_zero, List.setIfInBounds_toArray, List.set_cons_zero, List.set_cons_succ]
                (refine wpAnyH_take (i := 6) (v := ?_) rfl (by kernel_rfl) (by kernel_rfl) (by kernel_rfl) (fun _ _ _ h => h) (Or.inl ⟨by rfl, ?_⟩) (by assumption) ?_; rotate_left 1; (focus (intro wz hz; (try dsimp only at hz); (try simp only [List.getElem_toArray, List.getElem_cons_succ, List.getElem_cons_zero]); go_simp; try (with_reducible rfl); done)))
                try simp only [Act.put, List.getElem_toArray, List.getElem_cons_succ, List.getElem_cons_zero, List.setIfInBounds_toArray, List.set_cons_zero, List.set_cons_succ]
                (refine wpAnyH_take (i := 7) (v := ?_) rfl (by kernel_rfl) (by kernel_rfl) (by kernel_rfl) (fun _ _ _ h => h) (Or.inl ⟨by rfl, ?_⟩) (by assumption) ?_; rotate_left 1; (focus (intro wz hz; (try dsimp only at hz); (try simp only [List.getElem_toArray, List.getElem_cons_succ, List.getElem_cons_zero]); go_simp; try (with_reducible rfl); done)))
                try simp only [Act.put, List.getElem_toArray, List.getElem_cons_succ, List.getElem_cons_zero, List.setIfInBounds_toArray, List.set_cons_zero, List.set_cons_succ]
                (refine wpAnyH_take (i := 8) (v := ?_) rfl (by kernel_rfl) (by kernel_rfl) (by kernel_rfl) (fun _ _ _ h => h) (Or.inl ⟨by rfl, ?_⟩) (by assumption) ?_; rotate_left 1; (focus (intro wz hz; (try dsimp only at hz); (try simp only [List.getElem_toArray, List.getElem_cons_succ, List.getElem_cons_zero]); go_simp; try (with_reducible rfl); done)))
                try simp only [Act.put, List.getElem_toArray, List.getElem_cons_succ, List.getElem_cons_zero, List.setIfInBounds_toArray, List.set_cons_zero, List.set_cons_succ]
                (refine wpAnyH_take (i := 9) (v := ?_) rfl (by kernel_rfl) (by kernel_rfl) (by kernel_rfl) (fun _ _ _ h => h) (Or.inl ⟨by rfl, ?_⟩) (by assumption) ?_; rotate_left 1; (focus (intro wz hz; (try dsimp only at hz); (try simp only [List.getElem_toArray, List.getElem_cons_succ, List.getElem_cons_zero]); go_simp; try (with_reducible rfl); done)))
                try simp only [Act.put, List.getElem_toArray, List.getElem_cons_succ, List.getElem_cons_zero, List.setIfInBounds_toArray, List.set_cons_zero, List.set_cons_succ]
                (refine wpAnyH_take (i := 10) (v := ?_) rfl (by kernel_rfl) (by kernel_rfl) (by kernel_rfl) (fun _ _ _ h => h) (Or.inl ⟨by rfl, ?_⟩) (by assumption) ?_; rotate_left 1; (focus (intro wz hz; (try dsimp only at hz); (try simp only [List.getElem_toArray, List.getElem_cons_succ, List.getElem_cons_zero]); go_simp; try (with_reducible rfl); done)))
                try simp only [Act.put, List.getElem_toArray, List.getElem_cons_succ, List.getElem_cons_zero, List.setIfInBounds_toArray, List.set_cons_zero, List.set_cons_succ]
                refine wpAnyH_done (by kernel_rfl) ?_ _
                go_wp2
                go_roundw
                case rel => exact ⟨t + 1, by go_num, by omega, Fr.call HF.out HT5.out⟩
                case measure => simp [intOf]; omega
              · have hte : t = (live).length := by omega
                subst hte
                have HFF := Lib.hid hF
                clear g0 g1 hbx hBX hF htl
                go_wp2
                go_roundw
                case rel => exact ⟨k + 1, st, live, all, has, p, q, cc, dd, by go_num, by omega, by omega, HINV.out, (Below.block HFF.out _ hzt).trans HBX.out.1, IsSt.call HBX.out.2.1 HFF.out, HCAP.out, Rows3.call HBX.out.2.2 HFF.out, Fr.fin hBB HFF.out⟩
                case measure => simp [intOf]; omega
          · have hle' : (0 : Int) < live.length := by omega
            obtain ⟨t, htq⟩ : ∃ t : Nat, (t : Int) = dq % (live.length : Int) := ⟨(dq % (live.length : Int)).toNat, by have := Int.emod_nonneg dq (b := (live.length : Int)) (by omega); omega⟩
            have htl : t < live.length := by have := Int.emod_lt_of_pos dq hle'; omega
            have htl' : (t : Int) < live.length := by omega
            have htm : Int.tmod dq (live.length : Int) = (t : Int) := by rw [htq]; exact Int.tmod_eq_emod_of_nonneg hd0.1
            have hnz : ((live.length : Int) == 0) = false := by rw [beq_eq_false_iff_ne]; omega
            have hnz2 : (live.length : Int) ≠ 0 := by omega
            have hd1 : 0 ≤ dq := hd0.1
            have hd2 : dq ≤ 25 := hd0.2
            have hdw : dq / 1 = dq := by omega
            obtain ⟨g1, g2, g3⟩ := once_give hI (by omega) htl
            obtain ⟨pa, ca, ea, ra⟩ := hR.r1.reads
            obtain ⟨ba, oa, e1a, da⟩ := ra t htl
            simp only [Value.slice.injEq] at ea
            obtain ⟨ep, -, ec⟩ := ea
            rw [e1a] at ep
            obtain ⟨pb, cb, eb, rb⟩ := hR.r3.reads
            obtain ⟨bb, ob, e1b, -⟩ := rb t (by rw [hI.hal]; exact htl)
            simp only [Value.slice.injEq] at eb
            obtain ⟨eq, -, ed⟩ := eb
            rw [e1b] at eq
            clear rb ed e1b
            obtain ⟨y, hy⟩ : ∃ y, live[t] = y := ⟨_, rfl⟩
            rw [hy] at da g1 g2 g3
            have ct := give_any (.slice p st.1.length cc) (.slice q st.2.length dd) st y wr hst hcap (by omega) (by omega)
            have gl := giveN_len st y
            obtain ⟨X, hX⟩ : ∃ X, (giveN st y).1 = X := ⟨_, rfl⟩
            have hXe : giveN st y = (X, 0) := Prod.ext hX g1
            rw [hXe] at ct gl
            rw [hX] at g2 g3
            have cg := fun vc vf W (hv : IsSt W vc vf X) (hc : CapOk vf) => give_any vc vf X y W hv hc (by have := gl.1; dsimp only at this; omega) (by have := gl.2; dsimp only at this; omega)
            obtain ⟨Y, hY⟩ : ∃ Y, (giveN X y).1 = Y := ⟨_, rfl⟩
            have hYe : giveN X y = (Y, 6) := Prod.ext hY g2
            rw [hYe] at cg
            have HT := Lib.hid g3
            have hk150 : (k : Int) ≤ 150 := by omega
            clear hI hbox hst hcap hR hr6 g1 g2 g3 gl hX hXe hY hYe ra hy htq hd0 hdw e1a ec hle
            subst ep
            subst eq
            go_wp2_with fail
            refine ct.mono ?_; rintro e w2 ⟨vc2, vf2, rfl, s2, k2, hb2⟩
            obtain ⟨⟨p2, cc2, rfl, -⟩, ⟨q2, dd2, rfl, -⟩⟩ := id s2
            obtain ⟨hk2, hf2, hz2⟩ := bcellAt (b := w1.heap.size) hzb hb2
            have hs2 := hb2.size
            have S2 := Lib.hid (And.intro s2 k2)
            clear s2 k2 ct
            go_wp2_with fail
            refine (cg _ _ _ (S2.out.1.call ((Below.refl _ _).alloc (Nat.le_refl _) _)) S2.out.2).mono ?_; rintro e w3 ⟨vc3, vf3, rfl, s3, k3, hb3⟩
            obtain ⟨⟨p3, cc3, rfl, -⟩, ⟨q3, dd3, rfl, -⟩⟩ := id s3
            have hs3 := hb3.size
            simp only [World.size_alloc] at hs3
            clear s3 k3 cg
            go_upto_region 30 with fail
            obtain ⟨i0, hi, hj0, hj1, hj2⟩ := info_parts info_int
            refine gen_world (F := fun wt => (wt.heap[w1.heap.size]? = some (.cells #[.slice p st.1.length cc, .slice q st.2.length dd] 30) ∧ wt.heap[w2.heap.size]? = some (.cells #[.slice p2 X.1.length cc2, .slice q2 X.2.length dd2] 30)) ∧ IsSt wt (.slice p2 X.1.length cc2) (.slice q2 X.2.length dd2) X ∧ Rows3 wt (w1.heap.size + 1) (.slice (some ⟨ba, oa, none⟩) live.length c8) (.slice o9 all.length c9) (.slice (some ⟨bb, ob, none⟩) has.length c10) live all has ∧ Below w.heap.size w wt ∧ w2.heap.size < wt.heap.size) ⟨⟨(heap_alloc_old _ _ (by omega)).trans ((hb3.block w1.heap.size (by simp only [World.size_alloc]; omega)).trans ((heap_alloc_old _ _ hz2).trans ((hb2.block w1.heap.size hzb).trans HX.out.1))), (heap_alloc_old _ _ (by omega)).trans ((hb3.block w2.heap.size (by simp only [World.size_alloc]; omega)).trans (heap_alloc_new _ _))⟩, S2.out.1.call (show Below w2.heap.size w2 _ by (repeat (first | (with_reducible exact Below.refl _ _) | ((with_reducible refine below_alloc ?_ ?_ _); · (first | omega | (simp; done) | (simp; omega))) | ((with_reducible refine below_setCell ?_ ?_ _); · (first | omega | (simp; done) | (simp; omega))) | (with_reducible refine Below.drew ?_) | (with_reducible refine below_drewN ?_ _) | ((with_reducible refine below_call (by assumption) ?_ ?_); · (first | omega | (simp; done) | (simp; omega)))))), HX.out.2.2.2.call (show Below wr.heap.size wr _ by (repeat (first | (with_reducible exact Below.refl _ _) | ((with_reducible refine below_alloc ?_ ?_ _); · (first | omega | (simp; done) | (simp; omega))) | ((with_reducible refine below_setCell ?_ ?_ _); · (first | omega | (simp; done) | (simp; omega))) | (with_reducible refine Below.drew ?_) | (with_reducible refine below_drewN ?_ _) | ((with_reducible refine below_call (by assumption) ?_ ?_); · (first | omega | (simp; done) | (simp; omega)))))), by (repeat (first | (with_reducible exact Below.refl _ _) | ((with_reducible refine below_alloc ?_ ?_ _); · (first | omega | (simp; done) | (simp; omega))) | ((with_reducible refine below_setCell ?_ ?_ _); · (first | omega | (simp; done) | (simp; omega))) | (with_reducible refine Below.drew ?_) | (with_reducible refine below_drewN ?_ _) | ((with_reducible refine below_call (by assumption) ?_ ?_); · (first | omega | (simp; done) | (simp; omega))))), by simp; omega⟩ (fun wt hF => ?_)
            obtain ⟨⟨hbx6, hbx12⟩, hst12, hRR, hBB, hz12⟩ := hF
            have HW := Lib.hid (And.intro (And.intro hbx6 hbx12) (And.intro hst12 hRR))
            have R8 := Lib.hid hRR.r1.reads
            have R10 := Lib.hid hRR.r3.reads
            have hh1 : has.length = live.length := HI.out.hal
            have hc8 : live.length ≤ c8 := by
              obtain ⟨_, _, _, ev, hn8, _⟩ := hRR.r1.capOk
              simp only [Value.slice.injEq] at ev
              omega
            have hc10 : has.length ≤ c10 := by
              obtain ⟨_, _, _, ev, hn8, _⟩ := hRR.r3.capOk
              simp only [Value.slice.injEq] at ev
              omega
            have hc8' : (t : Int) ≤ c8 := by omega
            have hc10' : (t : Int) ≤ c10 := by omega
            have ht0 : (0 : Int) ≤ t := by omega
            have ht1 : (0 : Int) ≤ (t : Int) + 1 := by omega
            have ht2 : (t : Int) + 1 ≤ live.length := by omega
            have ht3 : (t : Int) + 1 ≤ has.length := by omega
            have ht4 : (t : Int) ≤ 64 := by omega
            have ht5 : ((t : Int) + 1).toNat = t + 1 := by omega
            have ht6 : IntKind.i64.wrap ((t : Int) + 1) = (t : Int) + 1 := IntWalk.i64_in _ (by omega)
            obtain ⟨AD, hAD, hADr⟩ := cut_addr R8.out hc8 htl
            have hth : t < has.length := by omega
            obtain ⟨BD, hBD, hBDr⟩ := cut_addr R10.out hc10 hth
            have HBD := Lib.hid hBDr
            have HAD := Lib.hid hADr
            have H1 := Lib.hid hh1
            clear hADr hBDr hh1
            clear hbx6 hbx12 hst12 hRR hk2 hf2 hz2 e0 e1 ef hb2 hb3
            go_region_law (first | (refine step_append_own rfl (.tmp 131) (.tmp 135) 23 rfl wt.heap.size 3 i0 (.int .i64 0) 1 8 Try.underlying23 hi hj0 hj1 hj2 rfl (by decide) vA (0 + t) ([] ++ (live.take t).map (Value.int .i64)) (by simp [Act.eval, Act.put]) hA1 AD (live.length - (t + 1)) (c8 - (t + 1)) ((live.drop (t + 1)).map (Value.int .i64)) (by simp [Act.eval, Act.put]) (by simp) (fun j u hu => (Below.cell (show Below wt.heap.size wt _ from hA3) (p := AD.add j) (World.block_lt_of_cell? _ _ (HAD.out j u hu))).trans (HAD.out j u hu)) (by intro u hu; obtain ⟨_, _, rfl⟩ := List.mem_map.1 hu; rfl) (by unfold maxLen; omega) (by omega) (by omega) ?_; intro vB wB hB1 hB2; have hB3 : Below wt.heap.size wt wB := Below.trans hA3 ((Below.refl _ _).grown hB2 (by omega) (fun q hq => (World.ownsRow.lt hA1 q hq).1))) | (refine step_append_own rfl (.tmp 127) (.tmp 130) 23 rfl wt.heap.size 3 i0 (.int .i64 0) 1 8 Try.underlying23 hi hj0 hj1 hj2 rfl (by decide) (.slice (some ⟨wt.heap.size, 0, none⟩) 0 0) 0 [] (by simp [Act.eval, Act.put]) (World.ownsRow_lit wt.drew #[] 0 (Nat.le_refl _) (by decide) rfl) ⟨ba, oa, none⟩ t c8 ((live.take t).map (Value.int .i64)) (by simp [Act.eval, Act.put]) (by simp; omega) (fun j u hu => by rw [Addr.add_lit]; exact rdI (R8.out.call (show Below wt.heap.size wt _ by (repeat (first | (with_reducible exact Below.refl _ _) | ((with_reducible refine below_alloc ?_ ?_ _); · (first | omega | (simp; done) | (simp; omega))) | ((with_reducible refine below_setCell ?_ ?_ _); · (first | omega | (simp; done) | (simp; omega))) | (with_reducible refine Below.drew ?_) | (with_reducible refine below_drewN ?_ _) | ((with_reducible refine below_call (by assumption) ?_ ?_); · (first | omega | (simp; done) | (simp; omega))))))) j u hu) (by intro u hu; obtain ⟨_, _, rfl⟩ := List.mem_map.1 hu; rfl) (by unfold maxLen; omega) (by omega) (by simp) ?_; intro vA wA hA1 hA2; have hA3 : Below wt.heap.size wt wA := ((((Below.refl _ _).drew).alloc (by simp) _).grown hA2 (by simp) (fun q hq => by cases hq; exact Nat.le_refl _)); have hzA := hA3.size))
            go_upto_region 31 with fail
            have hn8 : OwnI wB wt.heap.size vB (dropAt live t) := by
              show World.ownsRow _ _ _ _ _ _ _
              have e : (dropAt live t).length = 0 + t + (live.length - (t + 1)) := by have := dropAt_len htl; omega
              rw [e]; unfold dropAt; rw [List.map_append]; exact hB1
            obtain ⟨z8, cp8, hv8⟩ := row_shape3 hn8
            subst hv8
            have RB := Lib.hid (HW.out.2.2.renew hB3 hn8 (Nat.le_refl _) (by omega))
            have HB3 := Lib.hid hB3
            have hzB := hB3.size
            have HBDS := Lib.hid (fun j u hu => (Below.cell hB3 (p := BD.add j) (World.block_lt_of_cell? _ _ (HBD.out j u hu))).trans (HBD.out j u hu))
            have R10S := Lib.hid (R10.out.call hB3)
            clear hn8 hB1 hB2 hB3 hA1 hA2 hA3
            obtain ⟨wS, hwS⟩ : ∃ x, x = wB := ⟨_, rfl⟩
            subst hwS
            go_region_law (first | (refine step_append_own rfl (.tmp 141) (.tmp 145) 23 rfl wS.heap.size 3 i0 (.int .i64 0) 1 8 Try.underlying23 hi hj0 hj1 hj2 rfl (by decide) vC (0 + t) ([] ++ (has.take t).map (Value.int .i64)) (by simp [Act.eval, Act.put]) hC1 BD (has.length - (t + 1)) (c10 - (t + 1)) ((has.drop (t + 1)).map (Value.int .i64)) (by simp [Act.eval, Act.put]) (by simp) (fun j u hu => (Below.cell (show Below wS.heap.size wS _ from hC3) (p := BD.add j) (World.block_lt_of_cell? _ _ (HBDS.out j u hu))).trans (HBDS.out j u hu)) (by intro u hu; obtain ⟨_, _, rfl⟩ := List.mem_map.1 hu; rfl) (by unfold maxLen; omega) (by omega) (by omega) ?_; intro vD wD hD1 hD2; have hD3 : Below wS.heap.size wS wD := Below.trans hC3 ((Below.refl _ _).grown hD2 (by omega) (fun q hq => (World.ownsRow.lt hC1 q hq).1))) | (refine step_append_own rfl (.tmp 137) (.tmp 140) 23 rfl wS.heap.size 3 i0 (.int .i64 0) 1 8 Try.underlying23 hi hj0 hj1 hj2 rfl (by decide) (.slice (some ⟨wS.heap.size, 0, none⟩) 0 0) 0 [] (by simp [Act.eval, Act.put]) (World.ownsRow_lit wS.drew #[] 0 (Nat.le_refl _) (by decide) rfl) ⟨bb, ob, none⟩ t c10 ((has.take t).map (Value.int .i64)) (by simp [Act.eval, Act.put]) (by simp; omega) (fun j u hu => by rw [Addr.add_lit]; exact rdI (R10S.out.call (show Below wS.heap.size wS _ by (repeat (first | (with_reducible exact Below.refl _ _) | ((with_reducible refine below_alloc ?_ ?_ _); · (first | omega | (simp; done) | (simp; omega))) | ((with_reducible refine below_setCell ?_ ?_ _); · (first | omega | (simp; done) | (simp; omega))) | (with_reducible refine Below.drew ?_) | (with_reducible refine below_drewN ?_ _) | ((with_reducible refine below_call (by assumption) ?_ ?_); · (first | omega | (simp; done) | (simp; omega))))))) j u hu) (by intro u hu; obtain ⟨_, _, rfl⟩ := List.mem_map.1 hu; rfl) (by unfold maxLen; omega) (by omega) (by simp) ?_; intro vC wC hC1 hC2; have hC3 : Below wS.heap.size wS wC := ((((Below.refl _ _).drew).alloc (by simp) _).grown hC2 (by simp) (fun q hq => by cases hq; exact Nat.le_refl _)); have hzC := hC3.size))
            go_upto_region 32 with fail
            have hn10 : OwnI wD wS.heap.size vD (dropAt has t) := by
              show World.ownsRow _ _ _ _ _ _ _
              have e : (dropAt has t).length = 0 + t + (has.length - (t + 1)) := by have := dropAt_len (l := has) (t := t) (by have := H1.out; omega); omega
              rw [e]; unfold dropAt; rw [List.map_append]; exact hD1
            obtain ⟨z10, cp10, hv10⟩ := row_shape3 hn10
            subst hv10
            have RD := Lib.hid ((RB.out.rot.rot.renew hD3 hn10 (Nat.le_refl _) (by omega)).rot)
            have hD4 : Below wt.heap.size wt wD := Below.trans HB3.out (hD3.mono (by omega))
            have hx6 := (hD4.block w1.heap.size (by omega)).trans HW.out.1.1
            have hx12 := (hD4.block w2.heap.size (by omega)).trans HW.out.1.2
            have hsX := HW.out.2.1.call hD4
            have hBC : Below w.heap.size w wD := Below.trans hBB (hD4.mono (by have := hB.size; omega))
            have u0 := Lib.cell_of_heap hx12 0
            have u1 := Lib.cell_of_heap hx12 1
            have y0 := Lib.cell_of_heap hx6 0
            have y1 := Lib.cell_of_heap hx6 1
            have yf := Lib.frozen_of_heap hx6
            simp at u0 u1 y0 y1
            have hzD := hD4.size
            have hne12 : w2.heap.size ≠ w1.heap.size := by omega
            have hne12' : w1.heap.size ≠ w2.heap.size := by omega
            have HC := Lib.hid (And.intro hx6 hsX)
            clear hD1 hD2 hD3 hD4 hx6 hx12 hsX hn10
            go_upto_region 33 with fail
            obtain ⟨lv, hlv⟩ : ∃ x, dropAt live t = x := ⟨_, rfl⟩
            obtain ⟨hv, hhv⟩ : ∃ x, dropAt has t = x := ⟨_, rfl⟩
            rw [hlv, hhv] at RD HT
            rw [hlv, hhv]
            clear hlv hhv
            have HINV := Lib.hid HT.out
            have HCAP := Lib.hid S2.out.2
            refine gen_world (F := fun wt => wt.heap[w1.heap.size]? = some (.cells #[(.slice p2 X.1.length cc2), (.slice q2 X.2.length dd2)] 30) ∧ IsSt wt (.slice p2 X.1.length cc2) (.slice q2 X.2.length dd2) X ∧ Rows3 wt (w1.heap.size + 1) (.slice z8 lv.length cp8) (.slice o9 all.length c9) (.slice z10 hv.length cp10) lv all hv ∧ Below w.heap.size w wt) ⟨box_set HC.out.1 _ _, HC.out.2.far2 HC.out.1 ⟨_, _, _, rfl⟩ ⟨_, _, _, rfl⟩ _ _, (RD.out.below _ _ (by show w1.heap.size < _; omega)).below _ _ (by show w1.heap.size < _; omega), by (repeat (first | (with_reducible exact Below.refl _ _) | ((with_reducible refine below_alloc ?_ ?_ _); · (first | omega | (simp; done) | (simp; omega))) | ((with_reducible refine below_setCell ?_ ?_ _); · (first | omega | (simp; done) | (simp; omega))) | (with_reducible refine Below.drew ?_) | (with_reducible refine below_drewN ?_ _) | ((with_reducible refine below_call (by assumption) ?_ ?_); · (first | omega | (simp; done) | (simp; omega)))))⟩ (fun wt hF => ?_)
            obtain ⟨hbx, hstt, hRR, hBB⟩ := hF
            have g0 := Lib.cell_of_heap hbx 0
            have g1 := Lib.cell_of_heap hbx 1
            have gf := Lib.frozen_of_heap hbx
            have hzt : w1.heap.size < wt.heap.size := (Array.getElem?_eq_some_iff.1 hbx).1
            simp at g0 g1
            obtain ⟨o1, o2, o3, o4⟩ := once_tells HINV.out
            obtain ⟨m1, m2, m3, m4⟩ := once_lens HINV.out
            have hhl : (hv).length = (lv).length := HINV.out.hal
            have kc := fun W (h : Fr wt W) => check_any _ _ X W (hstt.call h) (by omega) (by omega)
            rw [o1] at kc
            have ku := fun W (h : Fr wt W) => used_any _ _ X W (hstt.call h) (by omega) (by omega)
            rw [o2] at ku
            have kg := fun x W (h : Fr wt W) => get_any _ _ X x W (hstt.call h) (by omega) (by omega)
            have hn33 : ((X.1.length : Int) != N) = false := by rw [o3]; simp
            have HO4 := Lib.hid o4
            have HBX := Lib.hid (And.intro hbx (And.intro hstt hRR))
            have HHL := Lib.hid hhl
            have m5 : (((lv).length : Nat) : Int) ≤ 64 := by omega
            clear o1 o2 o3 o4 hbx hstt hhl
            try clear e0 e1 ef
            go_wp2_with fail
            refine (kc _ (by show Fr wt _; unfold Fr; (repeat (first | (with_reducible exact Below.refl _ _) | ((with_reducible refine below_alloc ?_ ?_ _); · (first | omega | (simp; done) | (simp; omega))) | ((with_reducible refine below_setCell ?_ ?_ _); · (first | omega | (simp; done) | (simp; omega))) | (with_reducible refine Below.drew ?_) | (with_reducible refine below_drewN ?_ _) | ((with_reducible refine below_call (by assumption) ?_ ?_); · (first | omega | (simp; done) | (simp; omega))))))).mono ?_; rintro e w7 ⟨rfl, hb7⟩
            obtain ⟨hk7, hf7, hz7⟩ := bcellAt (b := w1.heap.size) hzt hb7
            have hs7 := hb7.size
            clear kc
            go_wp2_with fail
            refine (ku _ (by show Fr wt _; unfold Fr; (repeat (first | (with_reducible exact Below.refl _ _) | ((with_reducible refine below_alloc ?_ ?_ _); · (first | omega | (simp; done) | (simp; omega))) | ((with_reducible refine below_setCell ?_ ?_ _); · (first | omega | (simp; done) | (simp; omega))) | (with_reducible refine Below.drew ?_) | (with_reducible refine below_drewN ?_ _) | ((with_reducible refine below_call (by assumption) ?_ ?_); · (first | omega | (simp; done) | (simp; omega))))))).mono ?_; rintro e w8 ⟨rfl, hb8⟩
            obtain ⟨hk8, hf8, hz8⟩ := bcellAt (b := w1.heap.size) hz7 hb8
            have hs8 := hb8.size
            have F8 : Fr wt w8 := by unfold Fr; (repeat (first | (with_reducible exact Below.refl _ _) | ((with_reducible refine below_alloc ?_ ?_ _); · (first | omega | (simp; done) | (simp; omega))) | ((with_reducible refine below_setCell ?_ ?_ _); · (first | omega | (simp; done) | (simp; omega))) | (with_reducible refine Below.drew ?_) | (with_reducible refine below_drewN ?_ _) | ((with_reducible refine below_call (by assumption) ?_ ?_); · (first | omega | (simp; done) | (simp; omega)))))
            have H8 := Lib.hid F8
            clear ku
            go_wp2_with fail
            clear hk7 hf7 hz7 hb7 hb8 hk8 hf8 hz8 g0 g1 gf hn33 F8
            go_loopw [22] (fun j wr => ∃ t : Nat, j = .int .i64 t ∧ t ≤ (lv).length ∧ Fr wt wr) (fun j _ => (lv).length - (intOf j).toNat)
            case atStart => exact ⟨0, rfl, by omega, H8.out⟩
            case round =>
              obtain ⟨t, rfl, ht, hF⟩ := hrel
              have hBX := HBX.out.1
              have hbx : wr.heap[w1.heap.size]? = some (.cells #[(.slice p2 X.1.length cc2), (.slice q2 X.2.length dd2)] 30) := (Below.block hF _ hzt).trans hBX
              have g0 := Lib.cell_of_heap hbx 0
              have g1 := Lib.cell_of_heap hbx 1
              simp at g0 g1
              by_cases htl : t < (lv).length
              · have htl' : (t : Int) < ((lv).length : Nat) := by omega
                have htl2 : (t : Int) < ((hv).length : Nat) := by have := HHL.out; omega
                have htl3 : t < (hv).length := by have := HHL.out; omega
                have htl4 := htl2
                have htl5 := htl'
                (try simp only [List.length_append, List.length_singleton] at htl4 htl5)
                obtain ⟨pa, ca, ea, ra⟩ := (HBX.out.2.2.r1.call hF).reads
                obtain ⟨pb, cb, eb, rb⟩ := (HBX.out.2.2.r3.call hF).reads
                obtain ⟨ba, oa, e1a, da⟩ := ra t htl
                obtain ⟨bb, ob, e1b, db⟩ := rb t htl3
                have hgt := HO4.out t htl htl3
                obtain ⟨y, hy⟩ : ∃ y, (lv)[t] = y := ⟨_, rfl⟩
                obtain ⟨z, hz⟩ : ∃ z, (hv)[t] = z := ⟨_, rfl⟩
                rw [hy] at da hgt
                rw [hz] at db hgt
                have kk := kg y
                rw [hgt] at kk
                simp only [Value.slice.injEq] at ea eb
                obtain ⟨ep, -, ec⟩ := ea
                obtain ⟨eq, -, ed⟩ := eb
                clear ra rb
                rw [e1a] at ep
                rw [e1b] at eq
                cases ep
                cases eq
                clear e1a e1b ec ed
                have hout : ∀ w', Fr wr w' → w'.cell? ⟨w1.heap.size, 0, none⟩ = some (.slice p2 X.1.length cc2) ∧ w'.cell? ⟨w1.heap.size, 1, none⟩ = some (.slice q2 X.2.length dd2) ∧ w'.cell? ⟨ba, oa + t, none⟩ = some (.int .i64 y) := fun w' h => ⟨(Below.cell h (p := ⟨w1.heap.size, 0, none⟩) (World.block_lt_of_cell? _ _ g0)).trans g0, (Below.cell h (p := ⟨w1.heap.size, 1, none⟩) (World.block_lt_of_cell? _ _ g1)).trans g1, (Below.cell h (p := ⟨ba, oa + t, none⟩) (World.block_lt_of_cell? _ _ da)).trans da⟩
                have F0 : Fr wr wr.drew := Below.drew (Below.refl _ _)
                have HF := Lib.hid hF
                have HDB := Lib.hid db
                clear hy hz hgt g0 g1 da db hbx hBX hF
                go_upto_region 38 with fail
                refine wp_region_held_drew (S := fun w' => w'.cell? ⟨w1.heap.size, 0, none⟩ = some (.slice p2 X.1.length cc2) ∧ w'.cell? ⟨w1.heap.size, 1, none⟩ = some (.slice q2 X.2.length dd2) ∧ w'.cell? ⟨ba, oa + t, none⟩ = some (.int .i64 y)) (by kernel_rfl) (hout _ (by assumption)) (fun hHeld => ?_)
                (refine wpAnyH_take (i := 0) (v := ?_) rfl (by kernel_rfl) (by kernel_rfl) (by kernel_rfl) (fun _ _ _ h => h) (Or.inl ⟨by rfl, ?_⟩) (by assumption) ?_; rotate_left 1; (focus (intro wz hz; (try dsimp only at hz); (try simp only [List.getElem_toArray, List.getElem_cons_succ, List.getElem_cons_zero]); go_simp; try (with_reducible rfl); done)))
                try simp only [Act.put, List.getElem_toArray, List.getElem_cons_succ, List.getElem_cons_zero, List.setIfInBounds_toArray, List.set_cons_zero, List.set_cons_succ]
                (refine wpAnyH_take (i := 1) (v := ?_) rfl (by kernel_rfl) (by kernel_rfl) (by kernel_rfl) (fun _ _ _ h => h) (Or.inl ⟨by rfl, ?_⟩) (by assumption) ?_; rotate_left 1; (focus (intro wz hz; (try dsimp only at hz); (try simp only [List.getElem_toArray, List.getElem_cons_succ, List.getElem_cons_zero]); go_simp; try (with_reducible rfl); done)))
                try simp only [Act.put, List.getElem_toArray, List.getElem_cons_succ, List.getElem_cons_zero, List.setIfInBounds_toArray, List.set_cons_zero, List.set_cons_succ]
                (refine wpAnyH_take (i := 2) (v := ?_) rfl (by kernel_rfl) (by kernel_rfl) (by kernel_rfl) (fun _ _ _ h => h) (Or.inl ⟨by rfl, ?_⟩) (by assumption) ?_; rotate_left 1; (focus (intro wz hz; (try dsimp only at hz); (try simp only [List.getElem_toArray, List.getElem_cons_succ, List.getElem_cons_zero]); go_simp; try (with_reducible rfl); done)))
                try simp only [Act.put, List.getElem_toArray, List.getElem_cons_succ, List.getElem_cons_zero, List.setIfInBounds_toArray, List.set_cons_zero, List.set_cons_succ]
                (refine wpAnyH_take (i := 3) (v := ?_) rfl (by kernel_rfl) (by kernel_rfl) (by kernel_rfl) (fun _ _ _ h => h) (Or.inl ⟨by rfl, ?_⟩) (by assumption) ?_; rotate_left 1; (focus (intro wz hz; (try dsimp only at hz); (try simp only [List.getElem_toArray, List.getElem_cons_succ, List.getElem_cons_zero]); go_simp; try (with_reducible rfl); done)))
                try simp only [Act.put, List.getElem_toArray, List.getElem_cons_succ, List.getElem_cons_zero, List.setIfInBounds_toArray, List.set_cons_zero, List.set_cons_succ]
                (refine wpAnyH_take (i := 4) (v := ?_) rfl (by kernel_rfl) (by kernel_rfl) (by kernel_rfl) (fun _ _ _ h => h) (Or.inl ⟨by rfl, ?_⟩) (by assumption) ?_; rotate_left 1; (focus (intro wz hz; (try dsimp only at hz); (try simp only [List.getElem_toArray, List.getElem_cons_succ, List.getElem_cons_zero]); go_simp; try (with_reducible rfl); done)))
                try simp only [Act.put, List.getElem_toArray, List.getElem_cons_succ, List.getElem_cons_zero, List.setIfInBounds_toArray, List.set_cons_zero, List.set_cons_succ]
                (refine wpAnyH_ready (rs := [5]) (by kernel_rfl) (by simp) ?_; refine AllReadyH.cons rfl (fun K hK => ?_) AllReadyH.nil; (try simp only [List.getElem_toArray, List.getElem_cons_succ, List.getElem_cons_zero]); go_simp; go_at_call 18; refine (kk _ (show Fr wt _ from Fr.call HF.out (by assumption))).mono ?_; rintro e wn5 ⟨rfl, hbn5⟩; have hTn5 := Fr.call (by assumption) hbn5; have hd5 := (Below.cell hTn5 (p := ⟨bb, ob + t, none⟩) (World.block_lt_of_cell? _ _ HDB.out)).trans HDB.out; have HT5 := Lib.hid hTn5; (try (go_wp2_with fail)); refine hK.out _ _ (hout _ (by assumption)) (fun hHeld => ?_); clear hK K)
                try simp only [Act.put, List.getElem_toArray, List.getElem_cons_succ, List.getElem_cons_zero, List.setIfInBounds_toArray, List.set_cons_zero, List.set_cons_succ]
                (refine wpAnyH_take (i := 6) (v := ?_) rfl (by kernel_rfl) (by kernel_rfl) (by kernel_rfl) (fun _ _ _ h => h) (Or.inl ⟨by rfl, ?_⟩) (by assumption) ?_; rotate_left 1; (focus (intro wz hz; (try dsimp only at hz); (try simp only [List.getElem_toArray, List.getElem_cons_succ, List.getElem_cons_zero]); go_simp; try (with_reducible rfl); done)))
                try simp only [Act.put, List.getElem_toArray, List.getElem_cons_succ, List.getElem_cons_zero, List.setIfInBounds_toArray, List.set_cons_zero, List.set_cons_succ]
                (refine wpAnyH_take (i := 7) (v := ?_) rfl (by kernel_rfl) (by kernel_rfl) (by kernel_rfl) (fun _ _ _ h => h) (Or.inl ⟨by rfl, ?_⟩) (by assumption) ?_; rotate_left 1; (focus (intro wz hz; (try dsimp only at hz); (try simp only [List.getElem_toArray, List.getElem_cons_succ, List.getElem_cons_zero]); go_simp; try (with_reducible rfl); done)))
                try simp only [Act.put, List.getElem_toArray, List.getElem_cons_succ, List.getElem_cons_zero, List.setIfInBounds_toArray, List.set_cons_zero, List.set_cons_succ]
                (refine wpAnyH_take (i := 8) (v := ?_) rfl (by kernel_rfl) (by kernel_rfl) (by kernel_rfl) (fun _ _ _ h => h) (Or.inl ⟨by rfl, ?_⟩) (by assumption) ?_; rotate_left 1; (focus (intro wz hz; (try dsimp only at hz); (try simp only [List.getElem_toArray, List.getElem_cons_succ, List.getElem_cons_zero]); go_simp; try (with_reducible rfl); done)))
                try simp only [Act.put, List.getElem_toArray, List.getElem_cons_succ, List.getElem_cons_zero, List.setIfInBounds_toArray, List.set_cons_zero, List.set_cons_succ]
                (refine wpAnyH_take (i := 9) (v := ?_) rfl (by kernel_rfl) (by kernel_rfl) (by kernel_rfl) (fun _ _ _ h => h) (Or.inl ⟨by rfl, ?_⟩) (by assumption) ?_; rotate_left 1; (focus (intro wz hz; (try dsimp only at hz); (try simp only [List.getElem_toArray, List.getElem_cons_succ, List.getElem_cons_zero]); go_simp; try (with_reducible rfl); done)))
                try simp only [Act.put, List.getElem_toArray, List.getElem_cons_succ, List.getElem_cons_zero, List.setIfInBounds_toArray, List.set_cons_zero, List.set_cons_succ]
                (refine wpAnyH_take (i := 10) (v := ?_) rfl (by kernel_rfl) (by kernel_rfl) (by kernel_rfl) (fun _ _ _ h => h) (Or.inl ⟨by rfl, ?_⟩) (by assumption) ?_; rotate_left 1; (focus (intro wz hz; (try dsimp only at hz); (try simp only [List.getElem_toArray, List.getElem_cons_succ, List.getElem_cons_zero]); go_simp; try (with_reducible rfl); done)))
                try simp only [Act.put, List.getElem_toArray, List.getElem_cons_succ, List.getElem_cons_zero, List.setIfInBounds_toArray, List.set_cons_zero, List.set_cons_succ]
                refine wpAnyH_done (by kernel_rfl) ?_ _
                go_wp2
                go_roundw
                case rel => exact ⟨t + 1, by go_num, by omega, Fr.call HF.out HT5.out⟩
                case measure => simp [intOf]; omega
              · have hte : t = (lv).length := by omega
                subst hte
                have HFF := Lib.hid hF
                clear g0 g1 hbx hBX hF htl
                go_wp2
                go_roundw
                case rel => exact ⟨k + 1, X, lv, all, hv, p2, q2, cc2, dd2, by go_num, by omega, by omega, HINV.out, (Below.block HFF.out _ hzt).trans HBX.out.1, IsSt.call HBX.out.2.1 HFF.out, HCAP.out, Rows3.call HBX.out.2.2 HFF.out, Fr.fin hBB HFF.out⟩
                case measure => simp [intOf]; omega
      · obtain rfl : k = l.length := by omega
        clear hI hbox hst hcap hR e0 e1 ef
        go_wp2_with fail
        refine (awake_any _).mono ?_; rintro e w9 ⟨rfl, hb9⟩
        have hs9 := hb9.size
        go_wp2_with fail
        go_ret
        exact ⟨rfl, by (repeat (first | (with_reducible exact Below.refl _ _) | ((with_reducible refine below_alloc ?_ ?_ _); · (first | omega | (simp; done) | (simp; omega))) | ((with_reducible refine below_setCell ?_ ?_ _); · (first | omega | (simp; done) | (simp; omega))) | (with_reducible refine Below.drew ?_) | (with_reducible refine below_drewN ?_ _) | ((with_reducible refine below_call (by assumption) ?_ ?_); · (first | omega | (simp; done) | (simp; omega)))))⟩

set_option maxRecDepth 100000 in
theorem ponce_lifted (os : Os) (started : os.Started) (H : Type) (enc : TypeId × Value → H) :
    ReturnsInHanded {} Try.checked os 5 .any (Rows.poolOnceSpec.pre6 enc Try.prog Try.f5 Rows.poolOnceRow.domain false) (Rows.poolOnceSpec.post enc Try.prog Try.f5 false true false false) := by
  refine returnsInHanded_of_change (C := Try.checked) own started (by kernel_rfl) Try.func5
    (ChangeSpec.witness6 (enc := enc) (C := Try.checked) false ⟨#[], #[.int .u8 0, .slice none 0 0], []⟩ 8 (by kernel_rfl) (by kernel_rfl) (by kernel_rfl) (by kernel_rfl)) ?_
  intro W base args ds gs before hval0 hW hcnd _
  have hval : ∀ (j : Nat) t v, Try.f5.params[j]? = some t → args[j]? = some v → Value.okWide Try.prog W .any base t v := hval0
  have hW' := hW
  obtain ⟨p, q, hA0, hV, rfl, hfz, hnd⟩ := hW
  have hA : DataW.TrodAll enc Try.prog W 0 (fun _ => true) true Try.f5.params.toList args.toList ds p := hA0
  rw [Try.params5] at hA hval
  obtain ⟨v0, vs0, d0, ds0, p0, q0, hargs, rfl, rfl, h0, r0⟩ := trodAll_cons hA
  obtain ⟨v1, vs1, d1, ds1, p1, q1, rfl, rfl, rfl, h1, r1⟩ := trodAll_cons r0
  obtain ⟨rfl, rfl, rfl⟩ := trodAll_nil r1
  obtain rfl : args = #[v0, v1] := by cases args; simp_all
  obtain ⟨rfl, rfl⟩ := trodVars_none hV
  obtain ⟨c, rfl, rfl, rfl, wc⟩ := open_int Try.underlying5 (hval 0 5 v0 rfl rfl) h0
  obtain ⟨l, hl, hln, hls⟩ := open_nums_k Try.underlying59 Try.underlying5 (by kernel_rfl) (hval 1 59 v1 rfl rfl) h1
  have bc := bounds_u8 wc
  refine (ponce_walk c v1 l W (by omega) (by omega) hl hln (fun x hx => by have := bounds_u8 (hls x hx); omega)).mono fun e W' ⟨he, hb⟩ => ?_
  subst he
  exact ⟨_, rfl, law_post rfl rfl Try.underlying4 (by kernel_rfl) rfl hW' hb⟩
theorem ponce_holds : Rows.PoolOnceSaid :=
  OpenClaim.holds_of_wide 5 Try.f5 rfl rfl rfl rfl rfl rfl rfl ⟨rfl, rfl, rfl, rfl, rfl⟩ rfl rfl rfl rfl rfl (by kernel_rfl) Try.func5 (by kernel_rfl)
    (of_decide_eq_true (by kernel_rfl)) (by unfold Func.isWrapper; first | (rw [if_pos (by decide +kernel)]; kernel_rfl) | (rw [if_neg (by decide +kernel)]; exact ⟨rfl, rfl⟩))
    (fun os started H enc _ => ponce_lifted os started H enc)
end Go.Proofs.Ytmnlpmfkoammhaa
