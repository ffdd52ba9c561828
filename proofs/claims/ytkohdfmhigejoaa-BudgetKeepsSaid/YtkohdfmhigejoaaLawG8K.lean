/- BudgetKeeps: whatever is charged, and charged no more, a state may be all along; what is charged is just what was taken, and not given back; it is never above the limit, and nothing is refused that fits: the statement holds for every input. No condition. -/
import Derived.Test.YtkohdfmhigejoaaLawFr8
import Derived.Test.YtkohdfmhigejoaaG8Q
import Derived.Deep.RegionWith
import Derived.Deep.DeepCutAuto
namespace Go.Proofs.Ytkohdfmhigejoaa
open Go.RowKit Go.ChangeShapes Go.WideShapes Go.ChangeAt
set_option linter.unusedVariables false
set_option linter.unusedSimpArgs false


set_option maxRecDepth 100000 in
set_option maxHeartbeats 32000000 in
theorem bkeeps_walk (lim : Int) (vl : Value) (l : List Dd) (w : World) (hlim : 0 ≤ lim ∧ lim ≤ 65535) (hv : IsD w vl l) (hll : l.length ≤ maxLen) (hby : ∀ d ∈ l, BytD d) :
    Calls Try.prog 5 #[.int .u16 lim, vl] w fun e w' => e = .returned (.bool true) ∧ Below w.heap.size w w' := by
  unfold maxLen at hll
  obtain ⟨pl, cl, rfl, hp⟩ := hv
  have H := Lib.hid hp
  have HY := Lib.hid hby
  clear hp hby
  by_cases h120 : (120 : Int) < l.length
  · go_enter Try.func5, Try.ntmps5
    go_wp2_with fail
    refine (awake_any _).mono ?_; rintro e w1 ⟨rfl, hb1⟩
    go_wp2
    go_ret
    exact ⟨rfl, by (repeat (first | (with_reducible exact Below.refl _ _) | ((with_reducible refine below_alloc ?_ ?_ _); · (first | omega | (simp; done) | (simp; omega))) | ((with_reducible refine below_setCell ?_ ?_ _); · (first | omega | (simp; done) | (simp; omega))) | (with_reducible refine Below.drew ?_) | (with_reducible refine below_drewN ?_ _) | ((with_reducible refine below_call (by assumption) ?_ ?_); · (first | omega | (simp; done) | (simp; omega)))))⟩
  have hl : (l.length : Int) ≤ 120 := by omega
  clear h120 hll
  obtain ⟨M, hM1, hM2, hM3⟩ := mod_nat lim hlim.1 4096 (by decide)
  replace hM1 : Int.tmod lim 4096 = M := hM1
  replace hM2 : lim % 4096 = M := hM2
  obtain ⟨m, hm⟩ : ∃ m : Int, m = 1 + M := ⟨_, rfl⟩
  have hm2 := Lib.hid (show 1 ≤ m ∧ m ≤ 4096 by omega)
  have hwM : IntKind.u16.wrap (M : Int) = M := IntWalk.u16_in _ (by omega)
  have hwM2 : IntKind.i64.wrap (M : Int) = M := IntWalk.i64_in _ (by omega)
  have hwm : IntKind.i64.wrap (1 + (M : Int)) = m := by rw [hm]; exact IntWalk.i64_in _ (by omega)
  have cn := fun W => new_any m W
  rw [show newC m = m from if_pos (inB_iff.2 hm2.out), show newE m = 0 from if_pos (inB_iff.2 hm2.out)] at cn
  have CN := Lib.hid cn
  clear cn hm hM3 hlim
  go_enter Try.func5, Try.ntmps5
  go_wp2_with fail
  refine (CN.out _).mono ?_; rintro e w1 ⟨rfl, hb1⟩
  have B1 : Below w.heap.size w w1 := by (repeat (first | (with_reducible exact Below.refl _ _) | ((with_reducible refine below_alloc ?_ ?_ _); · (first | omega | (simp; done) | (simp; omega))) | ((with_reducible refine below_setCell ?_ ?_ _); · (first | omega | (simp; done) | (simp; omega))) | (with_reducible refine Below.drew ?_) | (with_reducible refine below_drewN ?_ _) | ((with_reducible refine below_call (by assumption) ?_ ?_); · (first | omega | (simp; done) | (simp; omega)))))
  have hls : w.heap.size ≤ w1.heap.size := B1.size
  clear hb1 CN
  go_wp2_with fail
  refine gen_world (F := fun W => Hid (Bx7 W w1.heap.size m 0 0 0 0 0 0) ∧ Hid (Fz W w1.heap.size) ∧ Hid (Mb W (w1.heap.size + 1) 0 0 0 0 0 0) ∧ Hid (Fz W (w1.heap.size + 1)) ∧ Below w.heap.size w W)
    ⟨Lib.hid (by simp [Bx7, go_sem]), Lib.hid (fun o => by simp [go_sem]), Lib.hid (by simp [Mb, go_sem]), Lib.hid (fun o => by simp [go_sem]), B1.trans ((show Below w1.heap.size w1 _ by (repeat (first | (with_reducible exact Below.refl _ _) | ((with_reducible refine below_alloc ?_ ?_ _); · (first | omega | (simp; done) | (simp; omega))) | ((with_reducible refine below_setCell ?_ ?_ _); · (first | omega | (simp; done) | (simp; omega))) | (with_reducible refine Below.drew ?_) | (with_reducible refine below_drewN ?_ _) | ((with_reducible refine below_call (by assumption) ?_ ?_); · (first | omega | (simp; done) | (simp; omega)))))).mono B1.size)⟩ (fun wt hF => ?_)
  obtain ⟨Y0, FY0, M0, FM0, hBt⟩ := hF
  clear B1
  have hC0 : Hid (chkN m 0 0 0 0 0 0 = 0) := Lib.hid (chk_of (by unfold Smal; decide) hm2.out (by have := hm2.out.1; unfold sumN; omega))
  go_loopw [9] (fun i wr => ∃ (t : Nat) (a0 a1 a2 a3 a4 a5 : Int), i = .int .i64 t ∧ t ≤ l.length ∧ Hid (chkN m a0 a1 a2 a3 a4 a5 = 0) ∧ Hid (Bx7 wr w1.heap.size m a0 a1 a2 a3 a4 a5) ∧ Hid (Fz wr w1.heap.size) ∧ Hid (Mb wr (w1.heap.size + 1) a0 a1 a2 a3 a4 a5) ∧ Hid (Fz wr (w1.heap.size + 1)) ∧ Below w.heap.size w wr) (fun i _ => l.length - (intOf i).toNat)
  case atStart => exact ⟨0, 0, 0, 0, 0, 0, 0, rfl, Nat.zero_le _, hC0, Y0, FY0, M0, FM0, hBt⟩
  case round =>
    obtain ⟨t, a0, a1, a2, a3, a4, a5, rfl, ht, HC, HX, HFX, HM, HFM, hB⟩ := hrel
    clear hBt Y0 FY0 M0 FM0 hC0
    by_cases hlt : t < l.length
    · have hlt' : (t : Int) < l.length := by omega
      obtain ⟨b, off, rfl, d0, d1, d2⟩ := H.out t hlt
      have hyd := HY.out _ (List.getElem_mem hlt)
      obtain ⟨dd, hdd⟩ : ∃ x, l[t] = x := ⟨_, rfl⟩
      rw [hdd] at d0 d1 d2 hyd
      clear hdd
      obtain ⟨kk, nn, bb⟩ := dd
      replace d0 : w.cell? ⟨b, off + t * 3, none⟩ = some (.int .u8 kk) := d0
      replace d1 : w.cell? ⟨b, off + t * 3 + 1, none⟩ = some (.int .u8 nn) := d1
      replace d2 : w.cell? ⟨b, off + t * 3 + 2, none⟩ = some (.bool bb) := d2
      obtain ⟨hk8, hn8⟩ : (0 ≤ kk ∧ kk ≤ 255) ∧ (0 ≤ nn ∧ nn ≤ 255) := hyd
      have hbw : b < w.heap.size := World.block_lt_of_cell? _ _ d0
      have hold := Lib.hid (fun W (h : Below w.heap.size w W) => show W.cell? ⟨b, off + t * 3, none⟩ = some (.int .u8 kk) ∧ W.cell? ⟨b, off + t * 3 + 1, none⟩ = some (.int .u8 nn) ∧ W.cell? ⟨b, off + t * 3 + 2, none⟩ = some (.bool bb) from
        ⟨(h.cell (p := ⟨b, off + t * 3, none⟩) hbw).trans d0, (h.cell (p := ⟨b, off + t * 3 + 1, none⟩) hbw).trans d1, (h.cell (p := ⟨b, off + t * 3 + 2, none⟩) hbw).trans d2⟩)
      clear d0 d1 d2
      obtain ⟨K, hK1, hK2, hK3⟩ := mod_nat kk hk8.1 6 (by decide)
      replace hK1 : Int.tmod kk 6 = K := hK1
      replace hK2 : kk % 6 = K := hK2
      have hwK : IntKind.u8.wrap (K : Int) = K := IntWalk.u8_in _ (by omega)
      have hwK2 : IntKind.i64.wrap (K : Int) = K := IntWalk.i64_in _ (by omega)
      have hwN : IntKind.i64.wrap nn = nn := IntWalk.i64_in _ (by omega)
      have hK6 : (K : Int) < 6 := by omega
      have hbne : b ≠ w1.heap.size := by omega
      have hF0 := Fr.draw wr
      have hout : ∀ w', Fr wr w' → (w'.cell? ⟨b, off + t * 3, none⟩ = some (.int .u8 kk) ∧ w'.cell? ⟨b, off + t * 3 + 1, none⟩ = some (.int .u8 nn)) := fun w' h => ⟨(hold.out _ (Fr.fin hB h)).1, (hold.out _ (Fr.fin hB h)).2.1⟩
      go_wp2
      refine wp_region_held_drew (S := fun w' => w'.cell? ⟨b, off + t * 3, none⟩ = some (.int .u8 kk) ∧ w'.cell? ⟨b, off + t * 3 + 1, none⟩ = some (.int .u8 nn)) (by kernel_rfl) (hout _ (by assumption)) (fun hHeld => ?_)
      (refine wpAnyH_take (i := 0) (v := ?_) rfl (by kernel_rfl) (by kernel_rfl) (by kernel_rfl) (fun _ _ _ h => h) (Or.inl ⟨by rfl, ?_⟩) (by assumption) ?_; rotate_left 1; (focus (intro wz hz; (try dsimp only at hz); (try simp only [List.getElem_toArray, List.getElem_cons_succ, List.getElem_cons_zero]); go_simp; try (with_reducible rfl); done)))
      try simp only [Act.put, List.getElem_toArray, List.getElem_cons_succ, List.getElem_cons_zero, List.setIfInBounds_toArray, List.set_cons_zero, List.set_cons_succ]
      (refine wpAnyH_take (i := 1) (v := ?_) rfl (by kernel_rfl) (by kernel_rfl) (by kernel_rfl) (fun _ _ _ h => h) (Or.inl ⟨by rfl, ?_⟩) (by assumption) ?_; rotate_left 1; (focus (intro wz hz; (try dsimp only at hz); (try simp only [List.getElem_toArray, List.getElem_cons_succ, List.getElem_cons_zero]); go_simp; try (with_reducible rfl); done)))
      try simp only [Act.put, List.getElem_toArray, List.getElem_cons_succ, List.getElem_cons_zero, List.setIfInBounds_toArray, List.set_cons_zero, List.set_cons_succ]
      (refine wpAnyH_take (i := 7) (v := ?_) rfl (by kernel_rfl) (by kernel_rfl) (by kernel_rfl) (fun _ _ _ h => h) (Or.inl ⟨by rfl, ?_⟩) (by assumption) ?_; rotate_left 1; (focus (intro wz hz; (try dsimp only at hz); (try simp only [List.getElem_toArray, List.getElem_cons_succ, List.getElem_cons_zero]); go_simp; try (with_reducible rfl); done)))
      try simp only [Act.put, List.getElem_toArray, List.getElem_cons_succ, List.getElem_cons_zero, List.setIfInBounds_toArray, List.set_cons_zero, List.set_cons_succ]
      (refine wpAnyH_take (i := 8) (v := ?_) rfl (by kernel_rfl) (by kernel_rfl) (by kernel_rfl) (fun _ _ _ h => h) (Or.inl ⟨by rfl, ?_⟩) (by assumption) ?_; rotate_left 1; (focus (intro wz hz; (try dsimp only at hz); (try simp only [List.getElem_toArray, List.getElem_cons_succ, List.getElem_cons_zero]); go_simp; try (with_reducible rfl); done)))
      try simp only [Act.put, List.getElem_toArray, List.getElem_cons_succ, List.getElem_cons_zero, List.setIfInBounds_toArray, List.set_cons_zero, List.set_cons_succ]
      (refine wpAnyH_take (i := 2) (v := ?_) rfl (by kernel_rfl) (by kernel_rfl) (by kernel_rfl) (fun _ _ _ h => h) (Or.inl ⟨by rfl, ?_⟩) (by assumption) ?_; rotate_left 1; (focus (intro wz hz; (try dsimp only at hz); (try simp only [List.getElem_toArray, List.getElem_cons_succ, List.getElem_cons_zero]); go_simp; try (with_reducible rfl); done)))
      try simp only [Act.put, List.getElem_toArray, List.getElem_cons_succ, List.getElem_cons_zero, List.setIfInBounds_toArray, List.set_cons_zero, List.set_cons_succ]
      (refine wpAnyH_take (i := 9) (v := ?_) rfl (by kernel_rfl) (by kernel_rfl) (by kernel_rfl) (fun _ _ _ h => h) (Or.inl ⟨by rfl, ?_⟩) (by assumption) ?_; rotate_left 1; (focus (intro wz hz; (try dsimp only at hz); (try simp only [List.getElem_toArray, List.getElem_cons_succ, List.getElem_cons_zero]); go_simp; try (with_reducible rfl); done)))
      try simp only [Act.put, List.getElem_toArray, List.getElem_cons_succ, List.getElem_cons_zero, List.setIfInBounds_toArray, List.set_cons_zero, List.set_cons_succ]
      (refine wpAnyH_take (i := 3) (v := ?_) rfl (by kernel_rfl) (by kernel_rfl) (by kernel_rfl) (fun _ _ _ h => h) (Or.inl ⟨by rfl, ?_⟩) (by assumption) ?_; rotate_left 1; (focus (intro wz hz; (try dsimp only at hz); (try simp only [List.getElem_toArray, List.getElem_cons_succ, List.getElem_cons_zero]); go_simp; try (with_reducible rfl); done)))
      try simp only [Act.put, List.getElem_toArray, List.getElem_cons_succ, List.getElem_cons_zero, List.setIfInBounds_toArray, List.set_cons_zero, List.set_cons_succ]
      (refine wpAnyH_take (i := 10) (v := ?_) rfl (by kernel_rfl) (by kernel_rfl) (by kernel_rfl) (fun _ _ _ h => h) (Or.inl ⟨by rfl, ?_⟩) (by assumption) ?_; rotate_left 1; (focus (intro wz hz; (try dsimp only at hz); (try simp only [List.getElem_toArray, List.getElem_cons_succ, List.getElem_cons_zero]); go_simp; try (with_reducible rfl); done)))
      try simp only [Act.put, List.getElem_toArray, List.getElem_cons_succ, List.getElem_cons_zero, List.setIfInBounds_toArray, List.set_cons_zero, List.set_cons_succ]
      (refine wpAnyH_take (i := 4) (v := ?_) rfl (by kernel_rfl) (by kernel_rfl) (by kernel_rfl) (fun _ _ _ h => h) (Or.inl ⟨by rfl, ?_⟩) (by assumption) ?_; rotate_left 1; (focus (intro wz hz; (try dsimp only at hz); (try simp only [List.getElem_toArray, List.getElem_cons_succ, List.getElem_cons_zero]); go_simp; try (with_reducible rfl); done)))
      try simp only [Act.put, List.getElem_toArray, List.getElem_cons_succ, List.getElem_cons_zero, List.setIfInBounds_toArray, List.set_cons_zero, List.set_cons_succ]
      (refine wpAnyH_take (i := 11) (v := ?_) rfl (by kernel_rfl) (by kernel_rfl) (by kernel_rfl) (fun _ _ _ h => h) (Or.inl ⟨by rfl, ?_⟩) (by assumption) ?_; rotate_left 1; (focus (intro wz hz; (try dsimp only at hz); (try simp only [List.getElem_toArray, List.getElem_cons_succ, List.getElem_cons_zero]); go_simp; try (with_reducible rfl); done)))
      try simp only [Act.put, List.getElem_toArray, List.getElem_cons_succ, List.getElem_cons_zero, List.setIfInBounds_toArray, List.set_cons_zero, List.set_cons_succ]
      (refine wpAnyH_take (i := 5) (v := ?_) rfl (by kernel_rfl) (by kernel_rfl) (by kernel_rfl) (fun _ _ _ h => h) (Or.inl ⟨by rfl, ?_⟩) (by assumption) ?_; rotate_left 1; (focus (intro wz hz; (try dsimp only at hz); (try simp only [List.getElem_toArray, List.getElem_cons_succ, List.getElem_cons_zero]); go_simp; try (with_reducible rfl); done)))
      try simp only [Act.put, List.getElem_toArray, List.getElem_cons_succ, List.getElem_cons_zero, List.setIfInBounds_toArray, List.set_cons_zero, List.set_cons_succ]
      (refine wpAnyH_take (i := 12) (v := ?_) rfl (by kernel_rfl) (by kernel_rfl) (by kernel_rfl) (fun _ _ _ h => h) (Or.inl ⟨by rfl, ?_⟩) (by assumption) ?_; rotate_left 1; (focus (intro wz hz; (try dsimp only at hz); (try simp only [List.getElem_toArray, List.getElem_cons_succ, List.getElem_cons_zero]); go_simp; try (with_reducible rfl); done)))
      try simp only [Act.put, List.getElem_toArray, List.getElem_cons_succ, List.getElem_cons_zero, List.setIfInBounds_toArray, List.set_cons_zero, List.set_cons_succ]
      (refine wpAnyH_take (i := 6) (v := ?_) rfl (by kernel_rfl) (by kernel_rfl) (by kernel_rfl) (fun _ _ _ h => h) (Or.inl ⟨by rfl, ?_⟩) (by assumption) ?_; rotate_left 1; (focus (intro wz hz; (try dsimp only at hz); (try simp only [List.getElem_toArray, List.getElem_cons_succ, List.getElem_cons_zero]); go_simp; try (with_reducible rfl); done)))
      try simp only [Act.put, List.getElem_toArray, List.getElem_cons_succ, List.getElem_cons_zero, List.setIfInBounds_toArray, List.set_cons_zero, List.set_cons_succ]
      (refine wpAnyH_take (i := 13) (v := ?_) rfl (by kernel_rfl) (by kernel_rfl) (by kernel_rfl) (fun _ _ _ h => h) (Or.inl ⟨by rfl, ?_⟩) (by assumption) ?_; rotate_left 1; (focus (intro wz hz; (try dsimp only at hz); (try simp only [List.getElem_toArray, List.getElem_cons_succ, List.getElem_cons_zero]); go_simp; try (with_reducible rfl); done)))
      try simp only [Act.put, List.getElem_toArray, List.getElem_cons_succ, List.getElem_cons_zero, List.setIfInBounds_toArray, List.set_cons_zero, List.set_cons_succ]
      (refine wpAnyH_take (i := 14) (v := ?_) rfl (by kernel_rfl) (by kernel_rfl) (by kernel_rfl) (fun _ _ _ h => h) (Or.inl ⟨by rfl, ?_⟩) (by assumption) ?_; rotate_left 1; (focus (intro wz hz; (try dsimp only at hz); (try simp only [List.getElem_toArray, List.getElem_cons_succ, List.getElem_cons_zero]); go_simp; try (with_reducible rfl); done)))
      try simp only [Act.put, List.getElem_toArray, List.getElem_cons_succ, List.getElem_cons_zero, List.setIfInBounds_toArray, List.set_cons_zero, List.set_cons_succ]
      refine wpAnyH_done (by kernel_rfl) ?_ _
      clear hHeld hout
      refine gen_exit (F := fun W => Hid (Bx7 W w1.heap.size m a0 a1 a2 a3 a4 a5) ∧ Hid (Fz W w1.heap.size) ∧ Hid (Mb W (w1.heap.size + 1) a0 a1 a2 a3 a4 a5) ∧ Hid (Fz W (w1.heap.size + 1)) ∧ Below w.heap.size w W) ⟨Lib.hid (HX.out.fr hF0), Lib.hid (HFX.out.call HX.out.lt hF0), Lib.hid (HM.out.call hF0), Lib.hid (HFM.out.call HM.out.lt hF0), Fr.fin hB hF0⟩ (fun wt2 hF2 => ?_)
      clear HX HFX HM HFM hB hF0
      obtain ⟨HX, HFX, HM, HFM, hB⟩ := hF2
      go_wp2_with fail
      have hsm := Lib.hid (chk0 HC.out).1
      go_loopw [12, 13] (fun s j wv => ∃ k : Nat, j = .int .i64 k ∧ k ≤ 6 ∧ s = .int .i64 (sumTo a0 a1 a2 a3 a4 a5 k) ∧ Fr wt2 wv) (fun _ j _ => 6 - (intOf j).toNat)
      case atStart => exact ⟨0, rfl, by omega, rfl, Fr.refl _⟩
      case round =>
        obtain ⟨k, rfl, hk, rfl, hFv⟩ := hrel
        by_cases hk6 : k < 6
        · have hk6' : (k : Int) < 6 := by omega
          have hs1 := Lib.hid (sumTo_bd hsm.out hk)
          have hs2 := Lib.hid (step_bd hsm.out hk6)
          have hS : Hid (sumTo a0 a1 a2 a3 a4 a5 (k + 1) = sumTo a0 a1 a2 a3 a4 a5 k + manyAt k a0 a1 a2 a3 a4 a5 * costN k) := Lib.hid rfl
          have cc := Lib.hid (fun W => cost_b k W)
          have hw1 : IntKind.i64.wrap (manyAt k a0 a1 a2 a3 a4 a5 * costN k) = manyAt k a0 a1 a2 a3 a4 a5 * costN k := IntWalk.i64_in _ (by have := hs2.out; omega)
          have hw2 : IntKind.i64.wrap (sumTo a0 a1 a2 a3 a4 a5 k + manyAt k a0 a1 a2 a3 a4 a5 * costN k) = sumTo a0 a1 a2 a3 a4 a5 k + manyAt k a0 a1 a2 a3 a4 a5 * costN k := IntWalk.i64_in _ (by have h1 := hs1.out; have h2 := hs2.out; omega)
          have hout : ∀ w', Fr wr w' → (w'.cell? ⟨w1.heap.size + 1, k, none⟩ = some (.int .i64 (manyAt k a0 a1 a2 a3 a4 a5))) := fun w' h => ((HM.out.call hFv).call h).at hk6
          have hF0 := Fr.draw wr
          generalize manyAt k a0 a1 a2 a3 a4 a5 = y at hS hw1 hw2 hout
          generalize costN k = q at hS cc hw1 hw2
          clear hs1 hs2
          go_wp2
          refine wp_region_held_drew (S := fun w' => w'.cell? ⟨w1.heap.size + 1, k, none⟩ = some (.int .i64 y)) (by kernel_rfl) (hout _ (by assumption)) (fun hHeld => ?_)
          (refine wpAnyH_take (i := 0) (v := ?_) rfl (by kernel_rfl) (by kernel_rfl) (by kernel_rfl) (fun _ _ _ h => h) (Or.inl ⟨by rfl, ?_⟩) (by assumption) ?_; rotate_left 1; (focus (intro wz hz; (try dsimp only at hz); (try simp only [List.getElem_toArray, List.getElem_cons_succ, List.getElem_cons_zero]); go_simp; try (with_reducible rfl); done)))
          try simp only [Act.put, List.getElem_toArray, List.getElem_cons_succ, List.getElem_cons_zero, List.setIfInBounds_toArray, List.set_cons_zero, List.set_cons_succ]
          (refine wpAnyH_take (i := 1) (v := ?_) rfl (by kernel_rfl) (by kernel_rfl) (by kernel_rfl) (fun _ _ _ h => h) (Or.inl ⟨by rfl, ?_⟩) (by assumption) ?_; rotate_left 1; (focus (intro wz hz; (try dsimp only at hz); (try simp only [List.getElem_toArray, List.getElem_cons_succ, List.getElem_cons_zero]); go_simp; try (with_reducible rfl); done)))
          try simp only [Act.put, List.getElem_toArray, List.getElem_cons_succ, List.getElem_cons_zero, List.setIfInBounds_toArray, List.set_cons_zero, List.set_cons_succ]
          (refine wpAnyH_take (i := 4) (v := ?_) rfl (by kernel_rfl) (by kernel_rfl) (by kernel_rfl) (fun _ _ _ h => h) (Or.inl ⟨by rfl, ?_⟩) (by assumption) ?_; rotate_left 1; (focus (intro wz hz; (try dsimp only at hz); (try simp only [List.getElem_toArray, List.getElem_cons_succ, List.getElem_cons_zero]); go_simp; try (with_reducible rfl); done)))
          try simp only [Act.put, List.getElem_toArray, List.getElem_cons_succ, List.getElem_cons_zero, List.setIfInBounds_toArray, List.set_cons_zero, List.set_cons_succ]
          (refine wpAnyH_take (i := 2) (v := ?_) rfl (by kernel_rfl) (by kernel_rfl) (by kernel_rfl) (fun _ _ _ h => h) (Or.inl ⟨by rfl, ?_⟩) (by assumption) ?_; rotate_left 1; (focus (intro wz hz; (try dsimp only at hz); (try simp only [List.getElem_toArray, List.getElem_cons_succ, List.getElem_cons_zero]); go_simp; try (with_reducible rfl); done)))
          try simp only [Act.put, List.getElem_toArray, List.getElem_cons_succ, List.getElem_cons_zero, List.setIfInBounds_toArray, List.set_cons_zero, List.set_cons_succ]
          (refine wpAnyH_take (i := 3) (v := ?_) rfl (by kernel_rfl) (by kernel_rfl) (by kernel_rfl) (fun _ _ _ h => h) (Or.inl ⟨by rfl, ?_⟩) (by assumption) ?_; rotate_left 1; (focus (intro wz hz; (try dsimp only at hz); (try simp only [List.getElem_toArray, List.getElem_cons_succ, List.getElem_cons_zero]); go_simp; try (with_reducible rfl); done)))
          try simp only [Act.put, List.getElem_toArray, List.getElem_cons_succ, List.getElem_cons_zero, List.setIfInBounds_toArray, List.set_cons_zero, List.set_cons_succ]
          (refine wpAnyH_ready (rs := [5]) (by kernel_rfl) (by simp) ?_; refine AllReadyH.cons rfl (fun K hK => ?_) AllReadyH.nil; (try simp only [List.getElem_toArray, List.getElem_cons_succ, List.getElem_cons_zero]); go_simp; go_at_call 26; refine (cc.out _).mono ?_; rintro e wn5 ⟨rfl, hbn5⟩; have hTn5 := Fr.call (by assumption) hbn5; (try (go_wp2_with fail)); refine hK.out _ _ (hout _ (by assumption)) (fun hHeld => ?_); clear hK K)
          try simp only [Act.put, List.getElem_toArray, List.getElem_cons_succ, List.getElem_cons_zero, List.setIfInBounds_toArray, List.set_cons_zero, List.set_cons_succ]
          (refine wpAnyH_take (i := 6) (v := ?_) rfl (by kernel_rfl) (by kernel_rfl) (by kernel_rfl) (fun _ _ _ h => h) (Or.inl ⟨by rfl, ?_⟩) (by assumption) ?_; rotate_left 1; (focus (intro wz hz; (try dsimp only at hz); (try simp only [List.getElem_toArray, List.getElem_cons_succ, List.getElem_cons_zero]); go_simp; try (with_reducible rfl); done)))
          try simp only [Act.put, List.getElem_toArray, List.getElem_cons_succ, List.getElem_cons_zero, List.setIfInBounds_toArray, List.set_cons_zero, List.set_cons_succ]
          (refine wpAnyH_take (i := 7) (v := ?_) rfl (by kernel_rfl) (by kernel_rfl) (by kernel_rfl) (fun _ _ _ h => h) (Or.inl ⟨by rfl, ?_⟩) (by assumption) ?_; rotate_left 1; (focus (intro wz hz; (try dsimp only at hz); (try simp only [List.getElem_toArray, List.getElem_cons_succ, List.getElem_cons_zero]); go_simp; try (with_reducible rfl); done)))
          try simp only [Act.put, List.getElem_toArray, List.getElem_cons_succ, List.getElem_cons_zero, List.setIfInBounds_toArray, List.set_cons_zero, List.set_cons_succ]
          (refine wpAnyH_take (i := 8) (v := ?_) rfl (by kernel_rfl) (by kernel_rfl) (by kernel_rfl) (fun _ _ _ h => h) (Or.inl ⟨by rfl, ?_⟩) (by assumption) ?_; rotate_left 1; (focus (intro wz hz; (try dsimp only at hz); (try simp only [List.getElem_toArray, List.getElem_cons_succ, List.getElem_cons_zero]); go_simp; try (with_reducible rfl); done)))
          try simp only [Act.put, List.getElem_toArray, List.getElem_cons_succ, List.getElem_cons_zero, List.setIfInBounds_toArray, List.set_cons_zero, List.set_cons_succ]
          refine wpAnyH_done (by kernel_rfl) ?_ _
          clear hHeld
          go_wp2
          go_roundw
          case rel => exact ⟨k + 1, by go_num, by omega, by rw [hS.out], Fr.call hFv hTn5⟩
          case measure => simp [intOf]; omega
        · obtain rfl : k = 6 := by omega
          rw [sumTo_six]
          clear hk hk6
          have HXr := Lib.hid (HX.out.fr hFv); have HFXr := Lib.hid (HFX.out.call HX.out.lt hFv); have HMr := Lib.hid (HM.out.call hFv); have HFMr := Lib.hid (HFM.out.call HM.out.lt hFv)
          have hBr := Fr.fin hB hFv
          clear HX HFX HM HFM hB hFv
          have e2 := (hold.out _ hBr).2.2
          go_upto_if 68 with fail
          go_cut [] (fun wx => ∃ b0 b1 b2 b3 b4 b5 : Int, Hid (chkN m b0 b1 b2 b3 b4 b5 = 0) ∧ Hid (Bx7 wx w1.heap.size m b0 b1 b2 b3 b4 b5) ∧ Hid (Fz wx w1.heap.size) ∧ Hid (Mb wx (w1.heap.size + 1) b0 b1 b2 b3 b4 b5) ∧ Hid (Fz wx (w1.heap.size + 1)) ∧ Below w.heap.size w wx)
          case first =>
            have hy := many_bd (kind_nat hK3) hsm.out
            have hq := costN_pos (kind_nat hK3)
            cases bb with
            | true =>
              have hgi := giveB_iff HC.out (kind_nat hK3) hn8.1
              by_cases hle : nn ≤ manyAt K a0 a1 a2 a3 a4 a5
              · skip
                have h1 : giveB m a0 a1 a2 a3 a4 a5 K nn = true := by rw [hgi]; exact decide_eq_true hle
                have h2 : giveD m a0 a1 a2 a3 a4 a5 K nn = -nn := if_pos h1
                have cg := Lib.hid (fun W => give_any m a0 a1 a2 a3 a4 a5 K nn W)
                have HC2 := Lib.hid (giveD_chk HC.out (kind_nat hK3) hn8.1)
                rw [h1, h2] at cg
                rw [h2] at HC2
                have HS := Lib.hid (fun W (h : Mb W (w1.heap.size + 1) a0 a1 a2 a3 a4 a5) => h.set hK3 (-nn))
                rw [← Int.sub_eq_add_neg] at HS
                unfold addV at cg
                have hw : IntKind.i64.wrap (manyAt K a0 a1 a2 a3 a4 a5 - nn) = manyAt K a0 a1 a2 a3 a4 a5 - nn := IntWalk.i64_in _ (by omega)
                have hYat := Lib.hid (fun W (h : Mb W (w1.heap.size + 1) a0 a1 a2 a3 a4 a5) => h.at hK3)
                generalize addAt K 0 a0 (-nn) = x0 at cg HC2 HS
                generalize addAt K 1 a1 (-nn) = x1 at cg HC2 HS
                generalize addAt K 2 a2 (-nn) = x2 at cg HC2 HS
                generalize addAt K 3 a3 (-nn) = x3 at cg HC2 HS
                generalize addAt K 4 a4 (-nn) = x4 at cg HC2 HS
                generalize addAt K 5 a5 (-nn) = x5 at cg HC2 HS
                generalize manyAt K a0 a1 a2 a3 a4 a5 = y at hle HS hw hYat
                have hd : decide (nn ≤ y) = true := decide_eq_true hle
                clear h1 h2 hgi hy hq
                simp only [stV] at cg
                obtain ⟨s0, s1, s2, s3, s4, s5, s6⟩ := id HXr.out
                have l0 := HXr.out.lt
                go_wp2_with fail
                refine (cg.out _).mono ?_; rintro e w2 ⟨rfl, hb2⟩
                have X2 := HXr.out.call hb2; have FX2 := HFXr.out.call HXr.out.lt hb2; have M2 := HMr.out.call hb2; have FM2 := HFMr.out.call HMr.out.lt hb2
                have B2 := below_call hb2 hBr.size hBr
                have l2 := X2.lt
                have l3 := M2.lt
                clear s0 s1 s2 s3 s4 s5 s6 hb2 l0
                go_upto_region 19 with fail
                refine gen_world (F := fun W => Bx7 W w1.heap.size m a0 a1 a2 a3 a4 a5 ∧ Fz W w1.heap.size ∧ Mb W (w1.heap.size + 1) a0 a1 a2 a3 a4 a5 ∧ Fz W (w1.heap.size + 1) ∧ Bx7 W w2.heap.size m x0 x1 x2 x3 x4 x5 ∧ Below w.heap.size w W)
                  ⟨X2.call (by (repeat (first | (with_reducible exact Below.refl _ _) | ((with_reducible refine below_alloc ?_ ?_ _); · (first | omega | (simp; done) | (simp; omega))) | ((with_reducible refine below_setCell ?_ ?_ _); · (first | omega | (simp; done) | (simp; omega))) | (with_reducible refine Below.drew ?_) | (with_reducible refine below_drewN ?_ _) | ((with_reducible refine below_call (by assumption) ?_ ?_); · (first | omega | (simp; done) | (simp; omega)))))), FX2.call l2 (by (repeat (first | (with_reducible exact Below.refl _ _) | ((with_reducible refine below_alloc ?_ ?_ _); · (first | omega | (simp; done) | (simp; omega))) | ((with_reducible refine below_setCell ?_ ?_ _); · (first | omega | (simp; done) | (simp; omega))) | (with_reducible refine Below.drew ?_) | (with_reducible refine below_drewN ?_ _) | ((with_reducible refine below_call (by assumption) ?_ ?_); · (first | omega | (simp; done) | (simp; omega)))))), M2.call (by (repeat (first | (with_reducible exact Below.refl _ _) | ((with_reducible refine below_alloc ?_ ?_ _); · (first | omega | (simp; done) | (simp; omega))) | ((with_reducible refine below_setCell ?_ ?_ _); · (first | omega | (simp; done) | (simp; omega))) | (with_reducible refine Below.drew ?_) | (with_reducible refine below_drewN ?_ _) | ((with_reducible refine below_call (by assumption) ?_ ?_); · (first | omega | (simp; done) | (simp; omega)))))), FM2.call l3 (by (repeat (first | (with_reducible exact Below.refl _ _) | ((with_reducible refine below_alloc ?_ ?_ _); · (first | omega | (simp; done) | (simp; omega))) | ((with_reducible refine below_setCell ?_ ?_ _); · (first | omega | (simp; done) | (simp; omega))) | (with_reducible refine Below.drew ?_) | (with_reducible refine below_drewN ?_ _) | ((with_reducible refine below_call (by assumption) ?_ ?_); · (first | omega | (simp; done) | (simp; omega)))))), by simp [Bx7, go_sem], B2.trans ((show Below w2.heap.size w2 _ by (repeat (first | (with_reducible exact Below.refl _ _) | ((with_reducible refine below_alloc ?_ ?_ _); · (first | omega | (simp; done) | (simp; omega))) | ((with_reducible refine below_setCell ?_ ?_ _); · (first | omega | (simp; done) | (simp; omega))) | (with_reducible refine Below.drew ?_) | (with_reducible refine below_drewN ?_ _) | ((with_reducible refine below_call (by assumption) ?_ ?_); · (first | omega | (simp; done) | (simp; omega)))))).mono B2.size)⟩ (fun wt3 hF3 => ?_)
                clear X2 FX2 M2 FM2 B2
                obtain ⟨X, FX, MM, FM, V, hB3⟩ := hF3
                obtain ⟨v0, v1, v2, v3, v4, v5, v6⟩ := id V
                obtain ⟨s0, s1, s2, s3, s4, s5, s6⟩ := id X
                obtain ⟨f0, f1, f2, f3, f4, f5, f6⟩ := seven_fz FX
                have eY := hYat.out _ MM
                have fY : wt3.frozen? ⟨w1.heap.size + 1, K, none⟩ = false := FM _
                have HX3 := Lib.hid X; have HFX3 := Lib.hid FX; have HM3 := Lib.hid MM; have HFM3 := Lib.hid FM
                clear X FX MM FM V
                go_wp2_with fail
                have R1 := (HX3.out.far (p := ⟨w1.heap.size + 1, K, none⟩) (by simp) (.int .i64 (y - nn))).put m x0 x1 x2 x3 x4 x5
                have R2 := (HFX3.out.set ⟨w1.heap.size + 1, K, none⟩ (.int .i64 (y - nn))).put w1.heap.size m x0 x1 x2 x3 x4 x5
                have R3 := (HS.out _ HM3.out).put (b' := w1.heap.size) (by omega) m x0 x1 x2 x3 x4 x5
                have R4 := (HFM3.out.set ⟨w1.heap.size + 1, K, none⟩ (.int .i64 (y - nn))).put w1.heap.size m x0 x1 x2 x3 x4 x5
                have R5 := below_put (b := w1.heap.size) hls (below_setCell (p := ⟨w1.heap.size + 1, K, none⟩) (show w.heap.size ≤ w1.heap.size + 1 by omega) hB3 (.int .i64 (y - nn))) m x0 x1 x2 x3 x4 x5
                go_meet
                exact ⟨x0, x1, x2, x3, x4, x5, HC2, Lib.hid R1, Lib.hid R2, Lib.hid R3, Lib.hid R4, R5⟩
              · skip
                have h1 : giveB m a0 a1 a2 a3 a4 a5 K nn = false := by rw [hgi]; exact decide_eq_false hle
                have h2 : giveD m a0 a1 a2 a3 a4 a5 K nn = 0 := if_neg (by rw [h1]; decide)
                have cg := Lib.hid (fun W => give_any m a0 a1 a2 a3 a4 a5 K nn W)
                rw [h1, h2, addV_none] at cg
                have hYat := Lib.hid (fun W (h : Mb W (w1.heap.size + 1) a0 a1 a2 a3 a4 a5) => h.at hK3)
                generalize manyAt K a0 a1 a2 a3 a4 a5 = y at hle hYat
                have hd : decide (nn ≤ y) = false := decide_eq_false hle
                clear h1 h2 hgi hy hq
                simp only [stV] at cg
                obtain ⟨s0, s1, s2, s3, s4, s5, s6⟩ := id HXr.out
                have l0 := HXr.out.lt
                go_wp2_with fail
                refine (cg.out _).mono ?_; rintro e w2 ⟨rfl, hb2⟩
                have X2 := HXr.out.call hb2; have FX2 := HFXr.out.call HXr.out.lt hb2; have M2 := HMr.out.call hb2; have FM2 := HFMr.out.call HMr.out.lt hb2
                have B2 := below_call hb2 hBr.size hBr
                have l2 := X2.lt
                have l3 := M2.lt
                clear s0 s1 s2 s3 s4 s5 s6 hb2 l0
                go_upto_region 19 with fail
                refine gen_world (F := fun W => Bx7 W w1.heap.size m a0 a1 a2 a3 a4 a5 ∧ Fz W w1.heap.size ∧ Mb W (w1.heap.size + 1) a0 a1 a2 a3 a4 a5 ∧ Fz W (w1.heap.size + 1) ∧ Bx7 W w2.heap.size m a0 a1 a2 a3 a4 a5 ∧ Below w.heap.size w W)
                  ⟨X2.call (by (repeat (first | (with_reducible exact Below.refl _ _) | ((with_reducible refine below_alloc ?_ ?_ _); · (first | omega | (simp; done) | (simp; omega))) | ((with_reducible refine below_setCell ?_ ?_ _); · (first | omega | (simp; done) | (simp; omega))) | (with_reducible refine Below.drew ?_) | (with_reducible refine below_drewN ?_ _) | ((with_reducible refine below_call (by assumption) ?_ ?_); · (first | omega | (simp; done) | (simp; omega)))))), FX2.call l2 (by (repeat (first | (with_reducible exact Below.refl _ _) | ((with_reducible refine below_alloc ?_ ?_ _); · (first | omega | (simp; done) | (simp; omega))) | ((with_reducible refine below_setCell ?_ ?_ _); · (first | omega | (simp; done) | (simp; omega))) | (with_reducible refine Below.drew ?_) | (with_reducible refine below_drewN ?_ _) | ((with_reducible refine below_call (by assumption) ?_ ?_); · (first | omega | (simp; done) | (simp; omega)))))), M2.call (by (repeat (first | (with_reducible exact Below.refl _ _) | ((with_reducible refine below_alloc ?_ ?_ _); · (first | omega | (simp; done) | (simp; omega))) | ((with_reducible refine below_setCell ?_ ?_ _); · (first | omega | (simp; done) | (simp; omega))) | (with_reducible refine Below.drew ?_) | (with_reducible refine below_drewN ?_ _) | ((with_reducible refine below_call (by assumption) ?_ ?_); · (first | omega | (simp; done) | (simp; omega)))))), FM2.call l3 (by (repeat (first | (with_reducible exact Below.refl _ _) | ((with_reducible refine below_alloc ?_ ?_ _); · (first | omega | (simp; done) | (simp; omega))) | ((with_reducible refine below_setCell ?_ ?_ _); · (first | omega | (simp; done) | (simp; omega))) | (with_reducible refine Below.drew ?_) | (with_reducible refine below_drewN ?_ _) | ((with_reducible refine below_call (by assumption) ?_ ?_); · (first | omega | (simp; done) | (simp; omega)))))), by simp [Bx7, go_sem], B2.trans ((show Below w2.heap.size w2 _ by (repeat (first | (with_reducible exact Below.refl _ _) | ((with_reducible refine below_alloc ?_ ?_ _); · (first | omega | (simp; done) | (simp; omega))) | ((with_reducible refine below_setCell ?_ ?_ _); · (first | omega | (simp; done) | (simp; omega))) | (with_reducible refine Below.drew ?_) | (with_reducible refine below_drewN ?_ _) | ((with_reducible refine below_call (by assumption) ?_ ?_); · (first | omega | (simp; done) | (simp; omega)))))).mono B2.size)⟩ (fun wt3 hF3 => ?_)
                clear X2 FX2 M2 FM2 B2
                obtain ⟨X, FX, MM, FM, V, hB3⟩ := hF3
                obtain ⟨v0, v1, v2, v3, v4, v5, v6⟩ := id V
                obtain ⟨s0, s1, s2, s3, s4, s5, s6⟩ := id X
                obtain ⟨f0, f1, f2, f3, f4, f5, f6⟩ := seven_fz FX
                have eY := hYat.out _ MM
                have HX3 := Lib.hid X; have HFX3 := Lib.hid FX; have HM3 := Lib.hid MM; have HFM3 := Lib.hid FM
                clear X FX MM FM V
                go_wp2_with fail
                have R1 := HX3.out.put m a0 a1 a2 a3 a4 a5
                have R2 := HFX3.out.put w1.heap.size m a0 a1 a2 a3 a4 a5
                have R3 := HM3.out.put (b' := w1.heap.size) (by omega) m a0 a1 a2 a3 a4 a5
                have R4 := HFM3.out.put w1.heap.size m a0 a1 a2 a3 a4 a5
                have R5 := below_put (b := w1.heap.size) hls hB3 m a0 a1 a2 a3 a4 a5
                go_meet
                exact ⟨a0, a1, a2, a3, a4, a5, HC, Lib.hid R1, Lib.hid R2, Lib.hid R3, Lib.hid R4, R5⟩
            | false =>
              have hti := takeB_iff HC.out (kind_nat hK3) hn8.1
              have hs0 := (chk0 HC.out).2.2.1
              have hs1 := (chk0 HC.out).2.2.2
              have hm3 := hm2.out
              have hmul := mul_bd (x := nn) (q := costN K) hn8.1 (by omega) (by omega) hq.2
              have hw1 : IntKind.i64.wrap (nn * costN K) = nn * costN K := IntWalk.i64_in _ (by omega)
              have hw2 : IntKind.i64.wrap (sumN a0 a1 a2 a3 a4 a5 + nn * costN K) = sumN a0 a1 a2 a3 a4 a5 + nn * costN K := IntWalk.i64_in _ (by omega)
              have cc := Lib.hid (fun W => cost_b K W)
              by_cases hle : sumN a0 a1 a2 a3 a4 a5 + nn * costN K ≤ m
              · skip
                have h1 : takeB m a0 a1 a2 a3 a4 a5 K nn = true := by rw [hti]; exact decide_eq_true hle
                have h2 : takeD m a0 a1 a2 a3 a4 a5 K nn = nn := if_pos h1
                have cg := Lib.hid (fun W => take_any m a0 a1 a2 a3 a4 a5 K nn W)
                have HC2 := Lib.hid (takeD_chk HC.out (kind_nat hK3) hn8.1)
                rw [h1, h2] at cg
                rw [h2] at HC2
                have HS := Lib.hid (fun W (h : Mb W (w1.heap.size + 1) a0 a1 a2 a3 a4 a5) => h.set hK3 nn)
                unfold addV at cg
                have hw : IntKind.i64.wrap (manyAt K a0 a1 a2 a3 a4 a5 + nn) = manyAt K a0 a1 a2 a3 a4 a5 + nn := IntWalk.i64_in _ (by omega)
                have hYat := Lib.hid (fun W (h : Mb W (w1.heap.size + 1) a0 a1 a2 a3 a4 a5) => h.at hK3)
                generalize addAt K 0 a0 nn = x0 at cg HC2 HS
                generalize addAt K 1 a1 nn = x1 at cg HC2 HS
                generalize addAt K 2 a2 nn = x2 at cg HC2 HS
                generalize addAt K 3 a3 nn = x3 at cg HC2 HS
                generalize addAt K 4 a4 nn = x4 at cg HC2 HS
                generalize addAt K 5 a5 nn = x5 at cg HC2 HS
                generalize manyAt K a0 a1 a2 a3 a4 a5 = y at HS hw hYat hy
                generalize costN K = q at hle hw1 hw2 cc hmul hq hti
                have hd : decide (sumN a0 a1 a2 a3 a4 a5 + nn * q ≤ m) = true := decide_eq_true hle
                clear h1 h2 hti hy hq hmul hs0 hs1 hm3
                simp only [stV] at cg
                obtain ⟨s0, s1, s2, s3, s4, s5, s6⟩ := id HXr.out
                have l0 := HXr.out.lt
                go_wp2_with fail
                refine (cg.out _).mono ?_; rintro e w2 ⟨rfl, hb2⟩
                have X2 := HXr.out.call hb2; have FX2 := HFXr.out.call HXr.out.lt hb2; have M2 := HMr.out.call hb2; have FM2 := HFMr.out.call HMr.out.lt hb2
                have B2 := below_call hb2 hBr.size hBr
                have l2 := X2.lt
                have l3 := M2.lt
                clear s0 s1 s2 s3 s4 s5 s6 hb2 l0
                go_upto_region 25 with fail
                refine gen_world (F := fun W => Bx7 W w1.heap.size m a0 a1 a2 a3 a4 a5 ∧ Fz W w1.heap.size ∧ Mb W (w1.heap.size + 1) a0 a1 a2 a3 a4 a5 ∧ Fz W (w1.heap.size + 1) ∧ Bx7 W w2.heap.size m x0 x1 x2 x3 x4 x5 ∧ Below w.heap.size w W)
                  ⟨X2.call (by (repeat (first | (with_reducible exact Below.refl _ _) | ((with_reducible refine below_alloc ?_ ?_ _); · (first | omega | (simp; done) | (simp; omega))) | ((with_reducible refine below_setCell ?_ ?_ _); · (first | omega | (simp; done) | (simp; omega))) | (with_reducible refine Below.drew ?_) | (with_reducible refine below_drewN ?_ _) | ((with_reducible refine below_call (by assumption) ?_ ?_); · (first | omega | (simp; done) | (simp; omega)))))), FX2.call l2 (by (repeat (first | (with_reducible exact Below.refl _ _) | ((with_reducible refine below_alloc ?_ ?_ _); · (first | omega | (simp; done) | (simp; omega))) | ((with_reducible refine below_setCell ?_ ?_ _); · (first | omega | (simp; done) | (simp; omega))) | (with_reducible refine Below.drew ?_) | (with_reducible refine below_drewN ?_ _) | ((with_reducible refine below_call (by assumption) ?_ ?_); · (first | omega | (simp; done) | (simp; omega)))))), M2.call (by (repeat (first | (with_reducible exact Below.refl _ _) | ((with_reducible refine below_alloc ?_ ?_ _); · (first | omega | (simp; done) | (simp; omega))) | ((with_reducible refine below_setCell ?_ ?_ _); · (first | omega | (simp; done) | (simp; omega))) | (with_reducible refine Below.drew ?_) | (with_reducible refine below_drewN ?_ _) | ((with_reducible refine below_call (by assumption) ?_ ?_); · (first | omega | (simp; done) | (simp; omega)))))), FM2.call l3 (by (repeat (first | (with_reducible exact Below.refl _ _) | ((with_reducible refine below_alloc ?_ ?_ _); · (first | omega | (simp; done) | (simp; omega))) | ((with_reducible refine below_setCell ?_ ?_ _); · (first | omega | (simp; done) | (simp; omega))) | (with_reducible refine Below.drew ?_) | (with_reducible refine below_drewN ?_ _) | ((with_reducible refine below_call (by assumption) ?_ ?_); · (first | omega | (simp; done) | (simp; omega)))))), by simp [Bx7, go_sem], B2.trans ((show Below w2.heap.size w2 _ by (repeat (first | (with_reducible exact Below.refl _ _) | ((with_reducible refine below_alloc ?_ ?_ _); · (first | omega | (simp; done) | (simp; omega))) | ((with_reducible refine below_setCell ?_ ?_ _); · (first | omega | (simp; done) | (simp; omega))) | (with_reducible refine Below.drew ?_) | (with_reducible refine below_drewN ?_ _) | ((with_reducible refine below_call (by assumption) ?_ ?_); · (first | omega | (simp; done) | (simp; omega)))))).mono B2.size)⟩ (fun wt3 hF3 => ?_)
                clear X2 FX2 M2 FM2 B2
                obtain ⟨X, FX, MM, FM, V, hB3⟩ := hF3
                have HX3 := Lib.hid X; have HFX3 := Lib.hid FX; have HM3 := Lib.hid MM; have HFM3 := Lib.hid FM; have HV3 := Lib.hid V
                clear X FX MM FM V
                go_wp2_with fail
                refine (cc.out _).mono ?_; rintro e w4 ⟨rfl, hb4⟩
                have X := HX3.out.call hb4; have FX := HFX3.out.call HX3.out.lt hb4; have MM := HM3.out.call hb4; have FM := HFM3.out.call HM3.out.lt hb4; have V := HV3.out.call hb4
                have hB4 := below_call hb4 hB3.size hB3
                obtain ⟨v0, v1, v2, v3, v4, v5, v6⟩ := id V
                obtain ⟨s0, s1, s2, s3, s4, s5, s6⟩ := id X
                obtain ⟨f0, f1, f2, f3, f4, f5, f6⟩ := seven_fz FX
                have eY := hYat.out _ MM
                have fY : w4.frozen? ⟨w1.heap.size + 1, K, none⟩ = false := FM _
                have HX4 := Lib.hid X; have HFX4 := Lib.hid FX; have HM4 := Lib.hid MM; have HFM4 := Lib.hid FM
                clear X FX MM FM V hb4
                go_wp2_with fail
                have R1 := (HX4.out.far (p := ⟨w1.heap.size + 1, K, none⟩) (by simp) (.int .i64 (y + nn))).put m x0 x1 x2 x3 x4 x5
                have R2 := (HFX4.out.set ⟨w1.heap.size + 1, K, none⟩ (.int .i64 (y + nn))).put w1.heap.size m x0 x1 x2 x3 x4 x5
                have R3 := (HS.out _ HM4.out).put (b' := w1.heap.size) (by omega) m x0 x1 x2 x3 x4 x5
                have R4 := (HFM4.out.set ⟨w1.heap.size + 1, K, none⟩ (.int .i64 (y + nn))).put w1.heap.size m x0 x1 x2 x3 x4 x5
                have R5 := below_put (b := w1.heap.size) hls (below_setCell (p := ⟨w1.heap.size + 1, K, none⟩) (show w.heap.size ≤ w1.heap.size + 1 by omega) hB4 (.int .i64 (y + nn))) m x0 x1 x2 x3 x4 x5
                go_meet
                exact ⟨x0, x1, x2, x3, x4, x5, HC2, Lib.hid R1, Lib.hid R2, Lib.hid R3, Lib.hid R4, R5⟩
              · skip
                have h1 : takeB m a0 a1 a2 a3 a4 a5 K nn = false := by rw [hti]; exact decide_eq_false hle
                have h2 : takeD m a0 a1 a2 a3 a4 a5 K nn = 0 := if_neg (by rw [h1]; decide)
                have cg := Lib.hid (fun W => take_any m a0 a1 a2 a3 a4 a5 K nn W)
                rw [h1, h2, addV_none] at cg
                generalize costN K = q at hle hw1 hw2 cc hmul hq hti
                have hd : decide (sumN a0 a1 a2 a3 a4 a5 + nn * q ≤ m) = false := decide_eq_false hle
                clear h1 h2 hti hy hq hmul hs0 hs1 hm3
                simp only [stV] at cg
                obtain ⟨s0, s1, s2, s3, s4, s5, s6⟩ := id HXr.out
                have l0 := HXr.out.lt
                go_wp2_with fail
                refine (cg.out _).mono ?_; rintro e w2 ⟨rfl, hb2⟩
                have X2 := HXr.out.call hb2; have FX2 := HFXr.out.call HXr.out.lt hb2; have M2 := HMr.out.call hb2; have FM2 := HFMr.out.call HMr.out.lt hb2
                have B2 := below_call hb2 hBr.size hBr
                have l2 := X2.lt
                have l3 := M2.lt
                clear s0 s1 s2 s3 s4 s5 s6 hb2 l0
                go_upto_region 25 with fail
                refine gen_world (F := fun W => Bx7 W w1.heap.size m a0 a1 a2 a3 a4 a5 ∧ Fz W w1.heap.size ∧ Mb W (w1.heap.size + 1) a0 a1 a2 a3 a4 a5 ∧ Fz W (w1.heap.size + 1) ∧ Bx7 W w2.heap.size m a0 a1 a2 a3 a4 a5 ∧ Below w.heap.size w W)
                  ⟨X2.call (by (repeat (first | (with_reducible exact Below.refl _ _) | ((with_reducible refine below_alloc ?_ ?_ _); · (first | omega | (simp; done) | (simp; omega))) | ((with_reducible refine below_setCell ?_ ?_ _); · (first | omega | (simp; done) | (simp; omega))) | (with_reducible refine Below.drew ?_) | (with_reducible refine below_drewN ?_ _) | ((with_reducible refine below_call (by assumption) ?_ ?_); · (first | omega | (simp; done) | (simp; omega)))))), FX2.call l2 (by (repeat (first | (with_reducible exact Below.refl _ _) | ((with_reducible refine below_alloc ?_ ?_ _); · (first | omega | (simp; done) | (simp; omega))) | ((with_reducible refine below_setCell ?_ ?_ _); · (first | omega | (simp; done) | (simp; omega))) | (with_reducible refine Below.drew ?_) | (with_reducible refine below_drewN ?_ _) | ((with_reducible refine below_call (by assumption) ?_ ?_); · (first | omega | (simp; done) | (simp; omega)))))), M2.call (by (repeat (first | (with_reducible exact Below.refl _ _) | ((with_reducible refine below_alloc ?_ ?_ _); · (first | omega | (simp; done) | (simp; omega))) | ((with_reducible refine below_setCell ?_ ?_ _); · (first | omega | (simp; done) | (simp; omega))) | (with_reducible refine Below.drew ?_) | (with_reducible refine below_drewN ?_ _) | ((with_reducible refine below_call (by assumption) ?_ ?_); · (first | omega | (simp; done) | (simp; omega)))))), FM2.call l3 (by (repeat (first | (with_reducible exact Below.refl _ _) | ((with_reducible refine below_alloc ?_ ?_ _); · (first | omega | (simp; done) | (simp; omega))) | ((with_reducible refine below_setCell ?_ ?_ _); · (first | omega | (simp; done) | (simp; omega))) | (with_reducible refine Below.drew ?_) | (with_reducible refine below_drewN ?_ _) | ((with_reducible refine below_call (by assumption) ?_ ?_); · (first | omega | (simp; done) | (simp; omega)))))), by simp [Bx7, go_sem], B2.trans ((show Below w2.heap.size w2 _ by (repeat (first | (with_reducible exact Below.refl _ _) | ((with_reducible refine below_alloc ?_ ?_ _); · (first | omega | (simp; done) | (simp; omega))) | ((with_reducible refine below_setCell ?_ ?_ _); · (first | omega | (simp; done) | (simp; omega))) | (with_reducible refine Below.drew ?_) | (with_reducible refine below_drewN ?_ _) | ((with_reducible refine below_call (by assumption) ?_ ?_); · (first | omega | (simp; done) | (simp; omega)))))).mono B2.size)⟩ (fun wt3 hF3 => ?_)
                clear X2 FX2 M2 FM2 B2
                obtain ⟨X, FX, MM, FM, V, hB3⟩ := hF3
                have HX3 := Lib.hid X; have HFX3 := Lib.hid FX; have HM3 := Lib.hid MM; have HFM3 := Lib.hid FM; have HV3 := Lib.hid V
                clear X FX MM FM V
                go_wp2_with fail
                refine (cc.out _).mono ?_; rintro e w4 ⟨rfl, hb4⟩
                have X := HX3.out.call hb4; have FX := HFX3.out.call HX3.out.lt hb4; have MM := HM3.out.call hb4; have FM := HFM3.out.call HM3.out.lt hb4; have V := HV3.out.call hb4
                have hB4 := below_call hb4 hB3.size hB3
                obtain ⟨v0, v1, v2, v3, v4, v5, v6⟩ := id V
                obtain ⟨s0, s1, s2, s3, s4, s5, s6⟩ := id X
                obtain ⟨f0, f1, f2, f3, f4, f5, f6⟩ := seven_fz FX
                have HX4 := Lib.hid X; have HFX4 := Lib.hid FX; have HM4 := Lib.hid MM; have HFM4 := Lib.hid FM
                clear X FX MM FM V hb4
                go_wp2_with fail
                have R1 := HX4.out.put m a0 a1 a2 a3 a4 a5
                have R2 := HFX4.out.put w1.heap.size m a0 a1 a2 a3 a4 a5
                have R3 := HM4.out.put (b' := w1.heap.size) (by omega) m a0 a1 a2 a3 a4 a5
                have R4 := HFM4.out.put w1.heap.size m a0 a1 a2 a3 a4 a5
                have R5 := below_put (b := w1.heap.size) hls hB4 m a0 a1 a2 a3 a4 a5
                go_meet
                exact ⟨a0, a1, a2, a3, a4, a5, HC, Lib.hid R1, Lib.hid R2, Lib.hid R3, Lib.hid R4, R5⟩
          case rest =>
            obtain ⟨b0, b1, b2, b3, b4, b5, HC2, HX2, HFX2, HM2, HFM2, hB2⟩ := hcut
            clear HXr HFXr HMr HFMr hBr e2 hold hsm HC
            have q1 := Lib.hid (fun W => check_any m b0 b1 b2 b3 b4 b5 W)
            have q2 := Lib.hid (fun W => tot_any m b0 b1 b2 b3 b4 b5 W)
            have q3 := Lib.hid (fun W => left_any m b0 b1 b2 b3 b4 b5 W)
            have q4 := Lib.hid (fun W => load_any m b0 b1 b2 b3 b4 b5 W)
            rw [HC2.out] at q1
            have ht1 : totN m b0 b1 b2 b3 b4 b5 = sumN b0 b1 b2 b3 b4 b5 := if_pos HC2.out
            have ht2 := left_eq HC2.out
            have hl3 := load_bd HC2.out
            have hm4 := hm2.out
            have hTL : IntKind.i64.wrap (totN m b0 b1 b2 b3 b4 b5 + leftN m b0 b1 b2 b3 b4 b5) = m := by
              rw [ht1, ht2, show sumN b0 b1 b2 b3 b4 b5 + (m - sumN b0 b1 b2 b3 b4 b5) = m by omega]
              exact IntWalk.i64_in _ (by omega)
            generalize totN m b0 b1 b2 b3 b4 b5 = T at q2 hTL ht1
            generalize leftN m b0 b1 b2 b3 b4 b5 = L at q3 hTL ht2
            generalize loadN m b0 b1 b2 b3 b4 b5 = D at q4 hl3
            have hd0 : decide (D < 0) = false := decide_eq_false (by omega)
            have hd1 : decide (100 < D) = false := decide_eq_false (by omega)
            clear ht1 ht2 hl3 hm4
            have hF0 := Fr.draw wc
            have hout : ∀ w', Fr wc w' → ((w'.cell? ⟨w1.heap.size, 0, none⟩ = some (.int .i64 m) ∧ w'.cell? ⟨w1.heap.size, 1, none⟩ = some (.int .i64 b0) ∧ w'.cell? ⟨w1.heap.size, 2, none⟩ = some (.int .i64 b1) ∧ w'.cell? ⟨w1.heap.size, 3, none⟩ = some (.int .i64 b2) ∧ w'.cell? ⟨w1.heap.size, 4, none⟩ = some (.int .i64 b3) ∧ w'.cell? ⟨w1.heap.size, 5, none⟩ = some (.int .i64 b4) ∧ w'.cell? ⟨w1.heap.size, 6, none⟩ = some (.int .i64 b5)) ∧ (w'.cell? ⟨w1.heap.size + 1, 0, none⟩ = some (.int .i64 b0) ∧ w'.cell? ⟨w1.heap.size + 1, 1, none⟩ = some (.int .i64 b1) ∧ w'.cell? ⟨w1.heap.size + 1, 2, none⟩ = some (.int .i64 b2) ∧ w'.cell? ⟨w1.heap.size + 1, 3, none⟩ = some (.int .i64 b3) ∧ w'.cell? ⟨w1.heap.size + 1, 4, none⟩ = some (.int .i64 b4) ∧ w'.cell? ⟨w1.heap.size + 1, 5, none⟩ = some (.int .i64 b5))) := fun w' h => ⟨HX2.out.fr h, HM2.out.call h⟩
            simp only [stV] at q1 q2 q3 q4
            go_wp2
            refine wp_region_held_drew (S := fun w' => (w'.cell? ⟨w1.heap.size, 0, none⟩ = some (.int .i64 m) ∧ w'.cell? ⟨w1.heap.size, 1, none⟩ = some (.int .i64 b0) ∧ w'.cell? ⟨w1.heap.size, 2, none⟩ = some (.int .i64 b1) ∧ w'.cell? ⟨w1.heap.size, 3, none⟩ = some (.int .i64 b2) ∧ w'.cell? ⟨w1.heap.size, 4, none⟩ = some (.int .i64 b3) ∧ w'.cell? ⟨w1.heap.size, 5, none⟩ = some (.int .i64 b4) ∧ w'.cell? ⟨w1.heap.size, 6, none⟩ = some (.int .i64 b5)) ∧ (w'.cell? ⟨w1.heap.size + 1, 0, none⟩ = some (.int .i64 b0) ∧ w'.cell? ⟨w1.heap.size + 1, 1, none⟩ = some (.int .i64 b1) ∧ w'.cell? ⟨w1.heap.size + 1, 2, none⟩ = some (.int .i64 b2) ∧ w'.cell? ⟨w1.heap.size + 1, 3, none⟩ = some (.int .i64 b3) ∧ w'.cell? ⟨w1.heap.size + 1, 4, none⟩ = some (.int .i64 b4) ∧ w'.cell? ⟨w1.heap.size + 1, 5, none⟩ = some (.int .i64 b5))) (by kernel_rfl) (hout _ (by assumption)) (fun hHeld => ?_)
            (refine wpAnyH_take (i := 0) (v := ?_) rfl (by kernel_rfl) (by kernel_rfl) (by kernel_rfl) (fun _ _ _ h => h) (Or.inl ⟨by rfl, ?_⟩) (by assumption) ?_; rotate_left 1; (focus (intro wz hz; (try dsimp only at hz); (try simp only [List.getElem_toArray, List.getElem_cons_succ, List.getElem_cons_zero]); go_simp; try (with_reducible rfl); done)))
            try simp only [Act.put, List.getElem_toArray, List.getElem_cons_succ, List.getElem_cons_zero, List.setIfInBounds_toArray, List.set_cons_zero, List.set_cons_succ]
            (refine wpAnyH_ready (rs := [1]) (by kernel_rfl) (by simp) ?_; refine AllReadyH.cons rfl (fun K hK => ?_) AllReadyH.nil; (try simp only [List.getElem_toArray, List.getElem_cons_succ, List.getElem_cons_zero]); go_simp; go_at_call 18; refine (q1.out _).mono ?_; rintro e wn1 ⟨rfl, hbn1⟩; have hTn1 := Fr.call (by assumption) hbn1; (try (go_wp2_with fail)); refine hK.out _ _ (hout _ (by assumption)) (fun hHeld => ?_); clear hK K)
            try simp only [Act.put, List.getElem_toArray, List.getElem_cons_succ, List.getElem_cons_zero, List.setIfInBounds_toArray, List.set_cons_zero, List.set_cons_succ]
            (refine wpAnyH_take (i := 2) (v := ?_) rfl (by kernel_rfl) (by kernel_rfl) (by kernel_rfl) (fun _ _ _ h => h) (Or.inl ⟨by rfl, ?_⟩) (by assumption) ?_; rotate_left 1; (focus (intro wz hz; (try dsimp only at hz); (try simp only [List.getElem_toArray, List.getElem_cons_succ, List.getElem_cons_zero]); go_simp; try (with_reducible rfl); done)))
            try simp only [Act.put, List.getElem_toArray, List.getElem_cons_succ, List.getElem_cons_zero, List.setIfInBounds_toArray, List.set_cons_zero, List.set_cons_succ]
            (refine wpAnyH_take (i := 3) (v := ?_) rfl (by kernel_rfl) (by kernel_rfl) (by kernel_rfl) (fun _ _ _ h => h) (Or.inl ⟨by rfl, ?_⟩) (by assumption) ?_; rotate_left 1; (focus (intro wz hz; (try dsimp only at hz); (try simp only [List.getElem_toArray, List.getElem_cons_succ, List.getElem_cons_zero]); go_simp; try (with_reducible rfl); done)))
            try simp only [Act.put, List.getElem_toArray, List.getElem_cons_succ, List.getElem_cons_zero, List.setIfInBounds_toArray, List.set_cons_zero, List.set_cons_succ]
            first | (refine wpAnyH_take (i := 4) (v := ?_) rfl (by kernel_rfl) (by kernel_rfl) (by kernel_rfl) (fun _ _ _ h => h) (Or.inl ⟨by rfl, ?_⟩) (by assumption) ?_; rotate_left 1; (focus (intro wz hz; (try dsimp only at hz); (try simp only [List.getElem_toArray, List.getElem_cons_succ, List.getElem_cons_zero]); go_simp; try (with_reducible rfl); done))) | (refine wpAnyH_take (i := 4) (v := undef) rfl (by kernel_rfl) (by kernel_rfl) (by kernel_rfl) (fun _ _ _ h => h) (Or.inr ⟨by rfl, rfl⟩) (by assumption) ?_)
            try simp only [Act.put, List.getElem_toArray, List.getElem_cons_succ, List.getElem_cons_zero, List.setIfInBounds_toArray, List.set_cons_zero, List.set_cons_succ]
            first | (refine wpAnyH_take (i := 6) (v := ?_) rfl (by kernel_rfl) (by kernel_rfl) (by kernel_rfl) (fun _ _ _ h => h) (Or.inl ⟨by rfl, ?_⟩) (by assumption) ?_; rotate_left 1; (focus (intro wz hz; (try dsimp only at hz); (try simp only [List.getElem_toArray, List.getElem_cons_succ, List.getElem_cons_zero]); go_simp; try (with_reducible rfl); done))) | (refine wpAnyH_take (i := 6) (v := undef) rfl (by kernel_rfl) (by kernel_rfl) (by kernel_rfl) (fun _ _ _ h => h) (Or.inr ⟨by rfl, rfl⟩) (by assumption) ?_)
            try simp only [Act.put, List.getElem_toArray, List.getElem_cons_succ, List.getElem_cons_zero, List.setIfInBounds_toArray, List.set_cons_zero, List.set_cons_succ]
            first | (refine wpAnyH_take (i := 5) (v := ?_) rfl (by kernel_rfl) (by kernel_rfl) (by kernel_rfl) (fun _ _ _ h => h) (Or.inl ⟨by rfl, ?_⟩) (by assumption) ?_; rotate_left 1; (focus (intro wz hz; (try dsimp only at hz); (try simp only [List.getElem_toArray, List.getElem_cons_succ, List.getElem_cons_zero]); go_simp; try (with_reducible rfl); done))) | (refine wpAnyH_take (i := 5) (v := undef) rfl (by kernel_rfl) (by kernel_rfl) (by kernel_rfl) (fun _ _ _ h => h) (Or.inr ⟨by rfl, rfl⟩) (by assumption) ?_)
            try simp only [Act.put, List.getElem_toArray, List.getElem_cons_succ, List.getElem_cons_zero, List.setIfInBounds_toArray, List.set_cons_zero, List.set_cons_succ]
            first | (refine wpAnyH_take (i := 7) (v := ?_) rfl (by kernel_rfl) (by kernel_rfl) (by kernel_rfl) (fun _ _ _ h => h) (Or.inl ⟨by rfl, ?_⟩) (by assumption) ?_; rotate_left 1; (focus (intro wz hz; (try dsimp only at hz); (try simp only [List.getElem_toArray, List.getElem_cons_succ, List.getElem_cons_zero]); go_simp; try (with_reducible rfl); done))) | (refine wpAnyH_take (i := 7) (v := undef) rfl (by kernel_rfl) (by kernel_rfl) (by kernel_rfl) (fun _ _ _ h => h) (Or.inr ⟨by rfl, rfl⟩) (by assumption) ?_)
            try simp only [Act.put, List.getElem_toArray, List.getElem_cons_succ, List.getElem_cons_zero, List.setIfInBounds_toArray, List.set_cons_zero, List.set_cons_succ]
            (refine wpAnyH_take (i := 8) (v := ?_) rfl (by kernel_rfl) (by kernel_rfl) (by kernel_rfl) (fun _ _ _ h => h) (Or.inl ⟨by rfl, ?_⟩) (by assumption) ?_; rotate_left 1; (focus (intro wz hz; (try dsimp only at hz); (try simp only [List.getElem_toArray, List.getElem_cons_succ, List.getElem_cons_zero]); go_simp; try (with_reducible rfl); done)))
            try simp only [Act.put, List.getElem_toArray, List.getElem_cons_succ, List.getElem_cons_zero, List.setIfInBounds_toArray, List.set_cons_zero, List.set_cons_succ]
            (refine wpAnyH_take (i := 9) (v := ?_) rfl (by kernel_rfl) (by kernel_rfl) (by kernel_rfl) (fun _ _ _ h => h) (Or.inl ⟨by rfl, ?_⟩) (by assumption) ?_; rotate_left 1; (focus (intro wz hz; (try dsimp only at hz); (try simp only [List.getElem_toArray, List.getElem_cons_succ, List.getElem_cons_zero]); go_simp; try (with_reducible rfl); done)))
            try simp only [Act.put, List.getElem_toArray, List.getElem_cons_succ, List.getElem_cons_zero, List.setIfInBounds_toArray, List.set_cons_zero, List.set_cons_succ]
            first | (refine wpAnyH_take (i := 10) (v := ?_) rfl (by kernel_rfl) (by kernel_rfl) (by kernel_rfl) (fun _ _ _ h => h) (Or.inl ⟨by rfl, ?_⟩) (by assumption) ?_; rotate_left 1; (focus (intro wz hz; (try dsimp only at hz); (try simp only [List.getElem_toArray, List.getElem_cons_succ, List.getElem_cons_zero]); go_simp; try (with_reducible rfl); done))) | (refine wpAnyH_take (i := 10) (v := undef) rfl (by kernel_rfl) (by kernel_rfl) (by kernel_rfl) (fun _ _ _ h => h) (Or.inr ⟨by rfl, rfl⟩) (by assumption) ?_)
            try simp only [Act.put, List.getElem_toArray, List.getElem_cons_succ, List.getElem_cons_zero, List.setIfInBounds_toArray, List.set_cons_zero, List.set_cons_succ]
            first | (refine wpAnyH_take (i := 12) (v := ?_) rfl (by kernel_rfl) (by kernel_rfl) (by kernel_rfl) (fun _ _ _ h => h) (Or.inl ⟨by rfl, ?_⟩) (by assumption) ?_; rotate_left 1; (focus (intro wz hz; (try dsimp only at hz); (try simp only [List.getElem_toArray, List.getElem_cons_succ, List.getElem_cons_zero]); go_simp; try (with_reducible rfl); done))) | (refine wpAnyH_take (i := 12) (v := undef) rfl (by kernel_rfl) (by kernel_rfl) (by kernel_rfl) (fun _ _ _ h => h) (Or.inr ⟨by rfl, rfl⟩) (by assumption) ?_)
            try simp only [Act.put, List.getElem_toArray, List.getElem_cons_succ, List.getElem_cons_zero, List.setIfInBounds_toArray, List.set_cons_zero, List.set_cons_succ]
            first | (refine wpAnyH_take (i := 15) (v := ?_) rfl (by kernel_rfl) (by kernel_rfl) (by kernel_rfl) (fun _ _ _ h => h) (Or.inl ⟨by rfl, ?_⟩) (by assumption) ?_; rotate_left 1; (focus (intro wz hz; (try dsimp only at hz); (try simp only [List.getElem_toArray, List.getElem_cons_succ, List.getElem_cons_zero]); go_simp; try (with_reducible rfl); done))) | (refine wpAnyH_take (i := 15) (v := undef) rfl (by kernel_rfl) (by kernel_rfl) (by kernel_rfl) (fun _ _ _ h => h) (Or.inr ⟨by rfl, rfl⟩) (by assumption) ?_)
            try simp only [Act.put, List.getElem_toArray, List.getElem_cons_succ, List.getElem_cons_zero, List.setIfInBounds_toArray, List.set_cons_zero, List.set_cons_succ]
            (refine wpAnyH_ready (rs := [11]) (by kernel_rfl) (by simp) ?_; refine AllReadyH.cons rfl (fun K hK => ?_) AllReadyH.nil; (try simp only [List.getElem_toArray, List.getElem_cons_succ, List.getElem_cons_zero]); go_simp; go_at_call 20; refine (q2.out _).mono ?_; rintro e wn11 ⟨rfl, hbn11⟩; have hTn11 := Fr.call (by assumption) hbn11; (try (go_wp2_with fail)); refine hK.out _ _ (hout _ (by assumption)) (fun hHeld => ?_); clear hK K)
            try simp only [Act.put, List.getElem_toArray, List.getElem_cons_succ, List.getElem_cons_zero, List.setIfInBounds_toArray, List.set_cons_zero, List.set_cons_succ]
            (refine wpAnyH_ready (rs := [13]) (by kernel_rfl) (by simp) ?_; refine AllReadyH.cons rfl (fun K hK => ?_) AllReadyH.nil; (try simp only [List.getElem_toArray, List.getElem_cons_succ, List.getElem_cons_zero]); go_simp; go_at_call 22; refine (q3.out _).mono ?_; rintro e wn13 ⟨rfl, hbn13⟩; have hTn13 := Fr.call (by assumption) hbn13; (try (go_wp2_with fail)); refine hK.out _ _ (hout _ (by assumption)) (fun hHeld => ?_); clear hK K)
            try simp only [Act.put, List.getElem_toArray, List.getElem_cons_succ, List.getElem_cons_zero, List.setIfInBounds_toArray, List.set_cons_zero, List.set_cons_succ]
            first | (refine wpAnyH_take (i := 14) (v := ?_) rfl (by kernel_rfl) (by kernel_rfl) (by kernel_rfl) (fun _ _ _ h => h) (Or.inl ⟨by rfl, ?_⟩) (by assumption) ?_; rotate_left 1; (focus (intro wz hz; (try dsimp only at hz); (try simp only [List.getElem_toArray, List.getElem_cons_succ, List.getElem_cons_zero]); go_simp; try (with_reducible rfl); done))) | (refine wpAnyH_take (i := 14) (v := undef) rfl (by kernel_rfl) (by kernel_rfl) (by kernel_rfl) (fun _ _ _ h => h) (Or.inr ⟨by rfl, rfl⟩) (by assumption) ?_)
            try simp only [Act.put, List.getElem_toArray, List.getElem_cons_succ, List.getElem_cons_zero, List.setIfInBounds_toArray, List.set_cons_zero, List.set_cons_succ]
            first | (refine wpAnyH_take (i := 16) (v := ?_) rfl (by kernel_rfl) (by kernel_rfl) (by kernel_rfl) (fun _ _ _ h => h) (Or.inl ⟨by rfl, ?_⟩) (by assumption) ?_; rotate_left 1; (focus (intro wz hz; (try dsimp only at hz); (try simp only [List.getElem_toArray, List.getElem_cons_succ, List.getElem_cons_zero]); go_simp; try (with_reducible rfl); done))) | (refine wpAnyH_take (i := 16) (v := undef) rfl (by kernel_rfl) (by kernel_rfl) (by kernel_rfl) (fun _ _ _ h => h) (Or.inr ⟨by rfl, rfl⟩) (by assumption) ?_)
            try simp only [Act.put, List.getElem_toArray, List.getElem_cons_succ, List.getElem_cons_zero, List.setIfInBounds_toArray, List.set_cons_zero, List.set_cons_succ]
            (refine wpAnyH_take (i := 17) (v := ?_) rfl (by kernel_rfl) (by kernel_rfl) (by kernel_rfl) (fun _ _ _ h => h) (Or.inl ⟨by rfl, ?_⟩) (by assumption) ?_; rotate_left 1; (focus (intro wz hz; (try dsimp only at hz); (try simp only [List.getElem_toArray, List.getElem_cons_succ, List.getElem_cons_zero]); go_simp; try (with_reducible rfl); done)))
            try simp only [Act.put, List.getElem_toArray, List.getElem_cons_succ, List.getElem_cons_zero, List.setIfInBounds_toArray, List.set_cons_zero, List.set_cons_succ]
            (refine wpAnyH_take (i := 18) (v := ?_) rfl (by kernel_rfl) (by kernel_rfl) (by kernel_rfl) (fun _ _ _ h => h) (Or.inl ⟨by rfl, ?_⟩) (by assumption) ?_; rotate_left 1; (focus (intro wz hz; (try dsimp only at hz); (try simp only [List.getElem_toArray, List.getElem_cons_succ, List.getElem_cons_zero]); go_simp; try (with_reducible rfl); done)))
            try simp only [Act.put, List.getElem_toArray, List.getElem_cons_succ, List.getElem_cons_zero, List.setIfInBounds_toArray, List.set_cons_zero, List.set_cons_succ]
            first | (refine wpAnyH_take (i := 19) (v := ?_) rfl (by kernel_rfl) (by kernel_rfl) (by kernel_rfl) (fun _ _ _ h => h) (Or.inl ⟨by rfl, ?_⟩) (by assumption) ?_; rotate_left 1; (focus (intro wz hz; (try dsimp only at hz); (try simp only [List.getElem_toArray, List.getElem_cons_succ, List.getElem_cons_zero]); go_simp; try (with_reducible rfl); done))) | (refine wpAnyH_take (i := 19) (v := undef) rfl (by kernel_rfl) (by kernel_rfl) (by kernel_rfl) (fun _ _ _ h => h) (Or.inr ⟨by rfl, rfl⟩) (by assumption) ?_)
            try simp only [Act.put, List.getElem_toArray, List.getElem_cons_succ, List.getElem_cons_zero, List.setIfInBounds_toArray, List.set_cons_zero, List.set_cons_succ]
            (refine wpAnyH_ready (rs := [20]) (by kernel_rfl) (by simp) ?_; refine AllReadyH.cons rfl (fun K hK => ?_) AllReadyH.nil; (try simp only [List.getElem_toArray, List.getElem_cons_succ, List.getElem_cons_zero]); go_simp; go_at_call 24; refine (q4.out _).mono ?_; rintro e wn20 ⟨rfl, hbn20⟩; have hTn20 := Fr.call (by assumption) hbn20; (try (go_wp2_with fail)); refine hK.out _ _ (hout _ (by assumption)) (fun hHeld => ?_); clear hK K)
            try simp only [Act.put, List.getElem_toArray, List.getElem_cons_succ, List.getElem_cons_zero, List.setIfInBounds_toArray, List.set_cons_zero, List.set_cons_succ]
            first | (refine wpAnyH_take (i := 21) (v := ?_) rfl (by kernel_rfl) (by kernel_rfl) (by kernel_rfl) (fun _ _ _ h => h) (Or.inl ⟨by rfl, ?_⟩) (by assumption) ?_; rotate_left 1; (focus (intro wz hz; (try dsimp only at hz); (try simp only [List.getElem_toArray, List.getElem_cons_succ, List.getElem_cons_zero]); go_simp; try (with_reducible rfl); done))) | (refine wpAnyH_take (i := 21) (v := undef) rfl (by kernel_rfl) (by kernel_rfl) (by kernel_rfl) (fun _ _ _ h => h) (Or.inr ⟨by rfl, rfl⟩) (by assumption) ?_)
            try simp only [Act.put, List.getElem_toArray, List.getElem_cons_succ, List.getElem_cons_zero, List.setIfInBounds_toArray, List.set_cons_zero, List.set_cons_succ]
            (refine wpAnyH_take (i := 22) (v := ?_) rfl (by kernel_rfl) (by kernel_rfl) (by kernel_rfl) (fun _ _ _ h => h) (Or.inl ⟨by rfl, ?_⟩) (by assumption) ?_; rotate_left 1; (focus (intro wz hz; (try dsimp only at hz); (try simp only [List.getElem_toArray, List.getElem_cons_succ, List.getElem_cons_zero]); go_simp; try (with_reducible rfl); done)))
            try simp only [Act.put, List.getElem_toArray, List.getElem_cons_succ, List.getElem_cons_zero, List.setIfInBounds_toArray, List.set_cons_zero, List.set_cons_succ]
            (refine wpAnyH_take (i := 23) (v := ?_) rfl (by kernel_rfl) (by kernel_rfl) (by kernel_rfl) (fun _ _ _ h => h) (Or.inl ⟨by rfl, ?_⟩) (by assumption) ?_; rotate_left 1; (focus (intro wz hz; (try dsimp only at hz); (try simp only [List.getElem_toArray, List.getElem_cons_succ, List.getElem_cons_zero]); go_simp; try (with_reducible rfl); done)))
            try simp only [Act.put, List.getElem_toArray, List.getElem_cons_succ, List.getElem_cons_zero, List.setIfInBounds_toArray, List.set_cons_zero, List.set_cons_succ]
            first | (refine wpAnyH_take (i := 24) (v := ?_) rfl (by kernel_rfl) (by kernel_rfl) (by kernel_rfl) (fun _ _ _ h => h) (Or.inl ⟨by rfl, ?_⟩) (by assumption) ?_; rotate_left 1; (focus (intro wz hz; (try dsimp only at hz); (try simp only [List.getElem_toArray, List.getElem_cons_succ, List.getElem_cons_zero]); go_simp; try (with_reducible rfl); done))) | (refine wpAnyH_take (i := 24) (v := undef) rfl (by kernel_rfl) (by kernel_rfl) (by kernel_rfl) (fun _ _ _ h => h) (Or.inr ⟨by rfl, rfl⟩) (by assumption) ?_)
            try simp only [Act.put, List.getElem_toArray, List.getElem_cons_succ, List.getElem_cons_zero, List.setIfInBounds_toArray, List.set_cons_zero, List.set_cons_succ]
            (refine wpAnyH_ready (rs := [25]) (by kernel_rfl) (by simp) ?_; refine AllReadyH.cons rfl (fun K hK => ?_) AllReadyH.nil; (try simp only [List.getElem_toArray, List.getElem_cons_succ, List.getElem_cons_zero]); go_simp; go_at_call 24; refine (q4.out _).mono ?_; rintro e wn25 ⟨rfl, hbn25⟩; have hTn25 := Fr.call (by assumption) hbn25; (try (go_wp2_with fail)); refine hK.out _ _ (hout _ (by assumption)) (fun hHeld => ?_); clear hK K)
            try simp only [Act.put, List.getElem_toArray, List.getElem_cons_succ, List.getElem_cons_zero, List.setIfInBounds_toArray, List.set_cons_zero, List.set_cons_succ]
            first | (refine wpAnyH_take (i := 26) (v := ?_) rfl (by kernel_rfl) (by kernel_rfl) (by kernel_rfl) (fun _ _ _ h => h) (Or.inl ⟨by rfl, ?_⟩) (by assumption) ?_; rotate_left 1; (focus (intro wz hz; (try dsimp only at hz); (try simp only [List.getElem_toArray, List.getElem_cons_succ, List.getElem_cons_zero]); go_simp; try (with_reducible rfl); done))) | (refine wpAnyH_take (i := 26) (v := undef) rfl (by kernel_rfl) (by kernel_rfl) (by kernel_rfl) (fun _ _ _ h => h) (Or.inr ⟨by rfl, rfl⟩) (by assumption) ?_)
            try simp only [Act.put, List.getElem_toArray, List.getElem_cons_succ, List.getElem_cons_zero, List.setIfInBounds_toArray, List.set_cons_zero, List.set_cons_succ]
            (refine wpAnyH_take (i := 27) (v := ?_) rfl (by kernel_rfl) (by kernel_rfl) (by kernel_rfl) (fun _ _ _ h => h) (Or.inl ⟨by rfl, ?_⟩) (by assumption) ?_; rotate_left 1; (focus (intro wz hz; (try dsimp only at hz); (try simp only [List.getElem_toArray, List.getElem_cons_succ, List.getElem_cons_zero]); go_simp; try (with_reducible rfl); done)))
            try simp only [Act.put, List.getElem_toArray, List.getElem_cons_succ, List.getElem_cons_zero, List.setIfInBounds_toArray, List.set_cons_zero, List.set_cons_succ]
            refine wpAnyH_done (by kernel_rfl) ?_ _
            clear hHeld hout
            go_wp2
            go_roundw
            case rel => exact ⟨t + 1, b0, b1, b2, b3, b4, b5, by go_num, by omega, HC2, Lib.hid (HX2.out.fr hTn25), Lib.hid (HFX2.out.call HX2.out.lt hTn25), Lib.hid (HM2.out.call hTn25), Lib.hid (HFM2.out.call HM2.out.lt hTn25), Fr.fin hB2 hTn25⟩
            case measure => simp [intOf]; omega
    · have hge : (l.length : Int) ≤ t := by omega
      go_wp2_with fail
      refine (awake_any _).mono ?_; rintro e w2 ⟨rfl, hb2⟩
      go_wp2
      go_ret
      exact ⟨rfl, below_call hb2 hB.size hB⟩

set_option maxRecDepth 100000 in
theorem bkeeps_lifted (os : Os) (started : os.Started) (H : Type) (enc : TypeId × Value → H) :
    ReturnsInHanded {} Try.checked os 5 .any (Rows.budgetKeepsSpec.pre6 enc Try.prog Try.f5 Rows.budgetKeepsRow.domain false) (Rows.budgetKeepsSpec.post enc Try.prog Try.f5 false true false false) := by
  refine returnsInHanded_of_change (C := Try.checked) own started (by kernel_rfl) Try.func5
    (ChangeSpec.witness6 (enc := enc) (C := Try.checked) false ⟨#[], #[.int .u16 0, .slice none 0 0], []⟩ 8 (by kernel_rfl) (by kernel_rfl) (by kernel_rfl) (by kernel_rfl)) ?_
  intro W base args ds gs before hval0 hW hcnd _
  have hval : ∀ (j : Nat) t v, Try.f5.params[j]? = some t → args[j]? = some v → Value.okWide Try.prog W .any base t v := hval0
  have hW' := hW
  obtain ⟨p, q, hA0, hV, rfl, hfz, hnd⟩ := hW
  have hA : DataW.TrodAll enc Try.prog W 0 (fun _ => true) true Try.f5.params.toList args.toList ds p := hA0
  rw [Try.params5] at hA hval
  obtain ⟨v0, vs0, d0, ds0, p0, q0, hargs, rfl, rfl, h0, r0⟩ := trodAll_cons hA
  obtain ⟨v1, vs1, d1, ds1, p1, q1, rfl, rfl, rfl, h1, r1⟩ := trodAll_cons r0
  obtain ⟨rfl, rfl, rfl⟩ := trodAll_nil r1
  obtain rfl : args = #[v0, v1] := by cases args; simp_all
  obtain ⟨rfl, rfl⟩ := trodVars_none hV
  obtain ⟨lim, rfl, rfl, rfl, hbr⟩ := open_int Try.underlying47 (hval 0 47 v0 rfl rfl) h0
  obtain ⟨l, hl, hll, hby⟩ := open_deeds (hval 1 48 v1 rfl rfl) h1
  refine (bkeeps_walk lim v1 l W (bounds_u16 hbr) hl hll hby).mono fun e W' ⟨he, hb⟩ => ?_
  subst he
  exact ⟨_, rfl, law_post rfl rfl Try.underlying4 (by kernel_rfl) rfl hW' hb⟩
theorem bkeeps_holds : Rows.BudgetKeepsSaid :=
  OpenClaim.holds_of_wide 5 Try.f5 rfl rfl rfl rfl rfl rfl rfl ⟨rfl, rfl, rfl, rfl, rfl⟩ rfl rfl rfl rfl rfl (by kernel_rfl) Try.func5 (by kernel_rfl)
    (of_decide_eq_true (by kernel_rfl)) (by unfold Func.isWrapper; first | (rw [if_pos (by decide +kernel)]; kernel_rfl) | (rw [if_neg (by decide +kernel)]; exact ⟨rfl, rfl⟩))
    (fun os started H enc _ => bkeeps_lifted os started H enc)
end Go.Proofs.Ytkohdfmhigejoaa
