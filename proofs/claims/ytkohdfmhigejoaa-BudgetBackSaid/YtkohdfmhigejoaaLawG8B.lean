/- BudgetBack: what is taken and given back leaves a state as it was; as many as fit fit, and not one more: the statement holds for every input. No condition. -/
import Derived.Test.YtkohdfmhigejoaaLawFr8
import Derived.Test.YtkohdfmhigejoaaG8P
namespace Go.Proofs.Ytkohdfmhigejoaa
open Go.RowKit Go.ChangeShapes Go.WideShapes Go.ChangeAt
set_option linter.unusedVariables false
set_option linter.unusedSimpArgs false

set_option maxRecDepth 100000 in
set_option maxHeartbeats 16000000 in
theorem bback_walk (lim : Int) (vl : Value) (l : List Dd) (ka na : Int) (ba : Bool) (w : World) (hlim : 0 ≤ lim ∧ lim ≤ 65535) (hv : IsD w vl l) (hll : l.length ≤ maxLen) (hby : ∀ d ∈ l, BytD d) (ha : 0 ≤ ka ∧ ka ≤ 255) :
    Calls Try.prog 6 #[.int .u16 lim, vl, .agg #[.int .u8 ka, .int .u8 na, .bool ba]] w fun e w' => e = .returned (.bool true) ∧ Below w.heap.size w w' := by
  unfold maxLen at hll
  obtain ⟨pl, cl, rfl, hp⟩ := hv
  have H := Lib.hid hp
  have HY := Lib.hid hby
  clear hp hby
  by_cases h60 : (60 : Int) < l.length
  · go_enter Try.func6, Try.ntmps6
    go_wp2_with fail
    refine (awake_any _).mono ?_; rintro e w1 ⟨rfl, hb1⟩
    go_wp2
    go_ret
    exact ⟨rfl, by (repeat (first | (with_reducible exact Below.refl _ _) | ((with_reducible refine below_alloc ?_ ?_ _); · (first | omega | (simp; done) | (simp; omega))) | ((with_reducible refine below_setCell ?_ ?_ _); · (first | omega | (simp; done) | (simp; omega))) | (with_reducible refine Below.drew ?_) | (with_reducible refine below_drewN ?_ _) | ((with_reducible refine below_call (by assumption) ?_ ?_); · (first | omega | (simp; done) | (simp; omega)))))⟩
  have hl : (l.length : Int) ≤ 60 := by omega
  clear h60 hll
  obtain ⟨M, hM1, hM2, hM3⟩ := mod_nat lim hlim.1 4096 (by decide)
  replace hM1 : Int.tmod lim 4096 = M := hM1
  replace hM2 : lim % 4096 = M := hM2
  obtain ⟨KA, hA1, hA2, hA3⟩ := mod_nat ka ha.1 6 (by decide)
  replace hA1 : Int.tmod ka 6 = KA := hA1
  replace hA2 : ka % 6 = KA := hA2
  have hwA : IntKind.u8.wrap (KA : Int) = KA := IntWalk.u8_in _ (by omega)
  have hwA2 : IntKind.i64.wrap (KA : Int) = KA := IntWalk.i64_in _ (by omega)
  have hkA := Lib.hid (show kindB (KA : Int) = true from inB_iff.2 (by omega))
  obtain ⟨m, hm⟩ : ∃ m : Int, m = 1 + M := ⟨_, rfl⟩
  have hm2 := Lib.hid (show 1 ≤ m ∧ m ≤ 4096 by omega)
  have hwM : IntKind.u16.wrap (M : Int) = M := IntWalk.u16_in _ (by omega)
  have hwM2 : IntKind.i64.wrap (M : Int) = M := IntWalk.i64_in _ (by omega)
  have hwm : IntKind.i64.wrap (1 + (M : Int)) = m := by rw [hm]; exact IntWalk.i64_in _ (by omega)
  have cn := fun W => new_any m W
  rw [show newC m = m from if_pos (inB_iff.2 hm2.out), show newE m = 0 from if_pos (inB_iff.2 hm2.out)] at cn
  have CN := Lib.hid cn
  clear cn hm hM3 hA3 hlim ha
  go_enter Try.func6, Try.ntmps6
  go_wp2_with fail
  refine (CN.out _).mono ?_; rintro e w1 ⟨rfl, hb1⟩
  have hka1 : w1.cell? ⟨w.heap.size, 0, none⟩ = some (.int .u8 ka) := (hb1.cell (p := ⟨w.heap.size, 0, none⟩) (by simp)).trans (by simp [go_sem])
  have B1 : Below w.heap.size w w1 := by (repeat (first | (with_reducible exact Below.refl _ _) | ((with_reducible refine below_alloc ?_ ?_ _); · (first | omega | (simp; done) | (simp; omega))) | ((with_reducible refine below_setCell ?_ ?_ _); · (first | omega | (simp; done) | (simp; omega))) | (with_reducible refine Below.drew ?_) | (with_reducible refine below_drewN ?_ _) | ((with_reducible refine below_call (by assumption) ?_ ?_); · (first | omega | (simp; done) | (simp; omega)))))
  have hls : w.heap.size < w1.heap.size := World.block_lt_of_cell? _ _ hka1
  clear hb1 CN
  go_wp2_with fail
  refine gen_world (F := fun W => Bx7 W w1.heap.size m 0 0 0 0 0 0 ∧ Fz W w1.heap.size ∧ W.cell? ⟨w.heap.size, 0, none⟩ = some (.int .u8 ka) ∧ Below w.heap.size w W)
    ⟨by simp [Bx7, go_sem], fun o => by simp [go_sem], ((show Below w1.heap.size w1 _ by (repeat (first | (with_reducible exact Below.refl _ _) | ((with_reducible refine below_alloc ?_ ?_ _); · (first | omega | (simp; done) | (simp; omega))) | ((with_reducible refine below_setCell ?_ ?_ _); · (first | omega | (simp; done) | (simp; omega))) | (with_reducible refine Below.drew ?_) | (with_reducible refine below_drewN ?_ _) | ((with_reducible refine below_call (by assumption) ?_ ?_); · (first | omega | (simp; done) | (simp; omega)))))).cell (p := ⟨w.heap.size, 0, none⟩) hls).trans hka1, B1.trans ((show Below w1.heap.size w1 _ by (repeat (first | (with_reducible exact Below.refl _ _) | ((with_reducible refine below_alloc ?_ ?_ _); · (first | omega | (simp; done) | (simp; omega))) | ((with_reducible refine below_setCell ?_ ?_ _); · (first | omega | (simp; done) | (simp; omega))) | (with_reducible refine Below.drew ?_) | (with_reducible refine below_drewN ?_ _) | ((with_reducible refine below_call (by assumption) ?_ ?_); · (first | omega | (simp; done) | (simp; omega)))))).mono B1.size)⟩ (fun wt hF => ?_)
  obtain ⟨Y0, FY0, hka, hBt⟩ := hF
  clear hka1 B1
  have hC0 : chkN m 0 0 0 0 0 0 = 0 := chk_of (by unfold Smal; decide) hm2.out (by have := hm2.out.1; unfold sumN; omega)
  have hC0' := Lib.hid hC0
  clear hC0
  go_loopw [9] (fun i wr => ∃ (t : Nat) (a0 a1 a2 a3 a4 a5 : Int), i = .int .i64 t ∧ t ≤ l.length ∧ Hid (chkN m a0 a1 a2 a3 a4 a5 = 0) ∧ Hid (Bx7 wr w1.heap.size m a0 a1 a2 a3 a4 a5) ∧ Hid (Fz wr w1.heap.size) ∧ wr.cell? ⟨w.heap.size, 0, none⟩ = some (.int .u8 ka) ∧ Below w.heap.size w wr) (fun i _ => l.length - (intOf i).toNat)
  case atStart => exact ⟨0, 0, 0, 0, 0, 0, 0, rfl, Nat.zero_le _, hC0', Lib.hid Y0, Lib.hid FY0, hka, hBt⟩
  case round =>
    obtain ⟨t, a0, a1, a2, a3, a4, a5, rfl, ht, HC, HX, HFX, hkr, hB⟩ := hrel
    clear hka hBt Y0 FY0 hC0'
    by_cases hlt : t < l.length
    · have hlt' : (t : Int) < l.length := by omega
      obtain ⟨b, off, rfl, d0, d1, d2⟩ := H.out t hlt
      have hyd := HY.out _ (List.getElem_mem hlt)
      obtain ⟨dd, hdd⟩ : ∃ x, l[t] = x := ⟨_, rfl⟩
      rw [hdd] at d0 d1 hyd
      clear hdd d2
      obtain ⟨kk, nn, bb⟩ := dd
      replace d0 : w.cell? ⟨b, off + t * 3, none⟩ = some (.int .u8 kk) := d0
      replace d1 : w.cell? ⟨b, off + t * 3 + 1, none⟩ = some (.int .u8 nn) := d1
      obtain ⟨hk8, hn8⟩ : (0 ≤ kk ∧ kk ≤ 255) ∧ (0 ≤ nn ∧ nn ≤ 255) := hyd
      have hbw : b < w.heap.size := World.block_lt_of_cell? _ _ d0
      have e0 := (hB.cell (p := ⟨b, off + t * 3, none⟩) hbw).trans d0
      have e1 := (hB.cell (p := ⟨b, off + t * 3 + 1, none⟩) hbw).trans d1
      obtain ⟨K, hK1, hK2, hK3⟩ := mod_nat kk hk8.1 6 (by decide)
      replace hK1 : Int.tmod kk 6 = K := hK1
      replace hK2 : kk % 6 = K := hK2
      have hwK : IntKind.u8.wrap (K : Int) = K := IntWalk.u8_in _ (by omega)
      have hwK2 : IntKind.i64.wrap (K : Int) = K := IntWalk.i64_in _ (by omega)
      have hwN : IntKind.i64.wrap nn = nn := IntWalk.i64_in _ (by omega)
      have hkK := Lib.hid (show kindB (K : Int) = true from inB_iff.2 (by omega))
      have HC2 := Lib.hid (takeD_chk (n := nn) HC.out hkK.out hn8.1)
      have ct := Lib.hid (fun W => take_any m a0 a1 a2 a3 a4 a5 K nn W)
      generalize takeD m a0 a1 a2 a3 a4 a5 K nn = D at HC2 ct
      generalize takeB m a0 a1 a2 a3 a4 a5 K nn = p at ct
      have hout : ∀ w', Fr wr w' → (w'.cell? ⟨b, off + t * 3, none⟩ = some (.int .u8 kk) ∧ w'.cell? ⟨b, off + t * 3 + 1, none⟩ = some (.int .u8 nn)) := fun w' h => ⟨(Below.cell h (p := ⟨b, off + t * 3, none⟩) (World.block_lt_of_cell? _ _ e0)).trans e0, (Below.cell h (p := ⟨b, off + t * 3 + 1, none⟩) (World.block_lt_of_cell? _ _ e1)).trans e1⟩
      have hne : b ≠ w1.heap.size := by omega
      have hne' : w1.heap.size ≠ b := by omega
      have hF0 := Fr.draw wr
      have hb5 : wr.cell? ⟨b, off + t * 3, none⟩ = some (.int .u8 kk) := e0
      clear d0 d1 hK3 HC
      go_wp2
      refine wp_region_held_drew (S := fun w' => w'.cell? ⟨b, off + t * 3, none⟩ = some (.int .u8 kk) ∧ w'.cell? ⟨b, off + t * 3 + 1, none⟩ = some (.int .u8 nn)) (by kernel_rfl) (hout _ (by assumption)) (fun hHeld => ?_)
      (refine wpAnyH_take (i := 1) (v := ?_) rfl (by kernel_rfl) (by kernel_rfl) (by kernel_rfl) (fun _ _ _ h => h) (Or.inl ⟨by rfl, ?_⟩) (by assumption) ?_; rotate_left 1; (focus (intro wz hz; (try dsimp only at hz); (try simp only [List.getElem_toArray, List.getElem_cons_succ, List.getElem_cons_zero]); go_simp; try (with_reducible rfl); done)))
      try simp only [Act.put, List.getElem_toArray, List.getElem_cons_succ, List.getElem_cons_zero, List.setIfInBounds_toArray, List.set_cons_zero, List.set_cons_succ]
      (refine wpAnyH_take (i := 2) (v := ?_) rfl (by kernel_rfl) (by kernel_rfl) (by kernel_rfl) (fun _ _ _ h => h) (Or.inl ⟨by rfl, ?_⟩) (by assumption) ?_; rotate_left 1; (focus (intro wz hz; (try dsimp only at hz); (try simp only [List.getElem_toArray, List.getElem_cons_succ, List.getElem_cons_zero]); go_simp; try (with_reducible rfl); done)))
      try simp only [Act.put, List.getElem_toArray, List.getElem_cons_succ, List.getElem_cons_zero, List.setIfInBounds_toArray, List.set_cons_zero, List.set_cons_succ]
      (refine wpAnyH_take (i := 8) (v := ?_) rfl (by kernel_rfl) (by kernel_rfl) (by kernel_rfl) (fun _ _ _ h => h) (Or.inl ⟨by rfl, ?_⟩) (by assumption) ?_; rotate_left 1; (focus (intro wz hz; (try dsimp only at hz); (try simp only [List.getElem_toArray, List.getElem_cons_succ, List.getElem_cons_zero]); go_simp; try (with_reducible rfl); done)))
      try simp only [Act.put, List.getElem_toArray, List.getElem_cons_succ, List.getElem_cons_zero, List.setIfInBounds_toArray, List.set_cons_zero, List.set_cons_succ]
      (refine wpAnyH_take (i := 9) (v := ?_) rfl (by kernel_rfl) (by kernel_rfl) (by kernel_rfl) (fun _ _ _ h => h) (Or.inl ⟨by rfl, ?_⟩) (by assumption) ?_; rotate_left 1; (focus (intro wz hz; (try dsimp only at hz); (try simp only [List.getElem_toArray, List.getElem_cons_succ, List.getElem_cons_zero]); go_simp; try (with_reducible rfl); done)))
      try simp only [Act.put, List.getElem_toArray, List.getElem_cons_succ, List.getElem_cons_zero, List.setIfInBounds_toArray, List.set_cons_zero, List.set_cons_succ]
      (refine wpAnyH_take (i := 3) (v := ?_) rfl (by kernel_rfl) (by kernel_rfl) (by kernel_rfl) (fun _ _ _ h => h) (Or.inl ⟨by rfl, ?_⟩) (by assumption) ?_; rotate_left 1; (focus (intro wz hz; (try dsimp only at hz); (try simp only [List.getElem_toArray, List.getElem_cons_succ, List.getElem_cons_zero]); go_simp; try (with_reducible rfl); done)))
      try simp only [Act.put, List.getElem_toArray, List.getElem_cons_succ, List.getElem_cons_zero, List.setIfInBounds_toArray, List.set_cons_zero, List.set_cons_succ]
      (refine wpAnyH_take (i := 10) (v := ?_) rfl (by kernel_rfl) (by kernel_rfl) (by kernel_rfl) (fun _ _ _ h => h) (Or.inl ⟨by rfl, ?_⟩) (by assumption) ?_; rotate_left 1; (focus (intro wz hz; (try dsimp only at hz); (try simp only [List.getElem_toArray, List.getElem_cons_succ, List.getElem_cons_zero]); go_simp; try (with_reducible rfl); done)))
      try simp only [Act.put, List.getElem_toArray, List.getElem_cons_succ, List.getElem_cons_zero, List.setIfInBounds_toArray, List.set_cons_zero, List.set_cons_succ]
      (refine wpAnyH_take (i := 4) (v := ?_) rfl (by kernel_rfl) (by kernel_rfl) (by kernel_rfl) (fun _ _ _ h => h) (Or.inl ⟨by rfl, ?_⟩) (by assumption) ?_; rotate_left 1; (focus (intro wz hz; (try dsimp only at hz); (try simp only [List.getElem_toArray, List.getElem_cons_succ, List.getElem_cons_zero]); go_simp; try (with_reducible rfl); done)))
      try simp only [Act.put, List.getElem_toArray, List.getElem_cons_succ, List.getElem_cons_zero, List.setIfInBounds_toArray, List.set_cons_zero, List.set_cons_succ]
      (refine wpAnyH_take (i := 11) (v := ?_) rfl (by kernel_rfl) (by kernel_rfl) (by kernel_rfl) (fun _ _ _ h => h) (Or.inl ⟨by rfl, ?_⟩) (by assumption) ?_; rotate_left 1; (focus (intro wz hz; (try dsimp only at hz); (try simp only [List.getElem_toArray, List.getElem_cons_succ, List.getElem_cons_zero]); go_simp; try (with_reducible rfl); done)))
      try simp only [Act.put, List.getElem_toArray, List.getElem_cons_succ, List.getElem_cons_zero, List.setIfInBounds_toArray, List.set_cons_zero, List.set_cons_succ]
      (refine wpAnyH_take (i := 5) (v := ?_) rfl (by kernel_rfl) (by kernel_rfl) (by kernel_rfl) (fun _ _ _ h => h) (Or.inl ⟨by rfl, ?_⟩) (by assumption) ?_; rotate_left 1; (focus (intro wz hz; (try dsimp only at hz); (try simp only [List.getElem_toArray, List.getElem_cons_succ, List.getElem_cons_zero]); go_simp; try (with_reducible rfl); done)))
      try simp only [Act.put, List.getElem_toArray, List.getElem_cons_succ, List.getElem_cons_zero, List.setIfInBounds_toArray, List.set_cons_zero, List.set_cons_succ]
      (refine wpAnyH_take (i := 12) (v := ?_) rfl (by kernel_rfl) (by kernel_rfl) (by kernel_rfl) (fun _ _ _ h => h) (Or.inl ⟨by rfl, ?_⟩) (by assumption) ?_; rotate_left 1; (focus (intro wz hz; (try dsimp only at hz); (try simp only [List.getElem_toArray, List.getElem_cons_succ, List.getElem_cons_zero]); go_simp; try (with_reducible rfl); done)))
      try simp only [Act.put, List.getElem_toArray, List.getElem_cons_succ, List.getElem_cons_zero, List.setIfInBounds_toArray, List.set_cons_zero, List.set_cons_succ]
      (refine wpAnyH_take (i := 6) (v := ?_) rfl (by kernel_rfl) (by kernel_rfl) (by kernel_rfl) (fun _ _ _ h => h) (Or.inl ⟨by rfl, ?_⟩) (by assumption) ?_; rotate_left 1; (focus (intro wz hz; (try dsimp only at hz); (try simp only [List.getElem_toArray, List.getElem_cons_succ, List.getElem_cons_zero]); go_simp; try (with_reducible rfl); done)))
      try simp only [Act.put, List.getElem_toArray, List.getElem_cons_succ, List.getElem_cons_zero, List.setIfInBounds_toArray, List.set_cons_zero, List.set_cons_succ]
      (refine wpAnyH_take (i := 13) (v := ?_) rfl (by kernel_rfl) (by kernel_rfl) (by kernel_rfl) (fun _ _ _ h => h) (Or.inl ⟨by rfl, ?_⟩) (by assumption) ?_; rotate_left 1; (focus (intro wz hz; (try dsimp only at hz); (try simp only [List.getElem_toArray, List.getElem_cons_succ, List.getElem_cons_zero]); go_simp; try (with_reducible rfl); done)))
      try simp only [Act.put, List.getElem_toArray, List.getElem_cons_succ, List.getElem_cons_zero, List.setIfInBounds_toArray, List.set_cons_zero, List.set_cons_succ]
      (refine wpAnyH_take (i := 7) (v := ?_) rfl (by kernel_rfl) (by kernel_rfl) (by kernel_rfl) (fun _ _ _ h => h) (Or.inl ⟨by rfl, ?_⟩) (by assumption) ?_; rotate_left 1; (focus (intro wz hz; (try dsimp only at hz); (try simp only [List.getElem_toArray, List.getElem_cons_succ, List.getElem_cons_zero]); go_simp; try (with_reducible rfl); done)))
      try simp only [Act.put, List.getElem_toArray, List.getElem_cons_succ, List.getElem_cons_zero, List.setIfInBounds_toArray, List.set_cons_zero, List.set_cons_succ]
      (refine wpAnyH_ready (rs := [0]) (by kernel_rfl) (by simp) ?_; refine AllReadyH.cons rfl (fun K hK => ?_) AllReadyH.nil; (try simp only [List.getElem_toArray, List.getElem_cons_succ, List.getElem_cons_zero]); obtain ⟨x0, x1, x2, x3, x4, x5, x6⟩ := HX.out.fr hF0; go_simp; refine hK.out _ _ (hHeld) (fun hHeld => ?_); clear hK K)
      try simp only [Act.put, List.getElem_toArray, List.getElem_cons_succ, List.getElem_cons_zero, List.setIfInBounds_toArray, List.set_cons_zero, List.set_cons_succ]
      (refine wpAnyH_ready (rs := [14]) (by kernel_rfl) (by simp) ?_; refine AllReadyH.cons rfl (fun K hK => ?_) AllReadyH.nil; (try simp only [List.getElem_toArray, List.getElem_cons_succ, List.getElem_cons_zero]); go_simp; go_at_call 7; refine (ct.out _).mono ?_; rintro e wn14 ⟨rfl, hbn14⟩; have hTn14 := Fr.call (by assumption) hbn14; (try (go_wp2_with fail)); refine hK.out _ _ (hout _ (by assumption)) (fun hHeld => ?_); clear hK K)
      try simp only [Act.put, List.getElem_toArray, List.getElem_cons_succ, List.getElem_cons_zero, List.setIfInBounds_toArray, List.set_cons_zero, List.set_cons_succ]
      (refine wpAnyH_take (i := 15) (v := ?_) rfl (by kernel_rfl) (by kernel_rfl) (by kernel_rfl) (fun _ _ _ h => h) (Or.inl ⟨by rfl, ?_⟩) (by assumption) ?_; rotate_left 1; (focus (intro wz hz; (try dsimp only at hz); (try simp only [List.getElem_toArray, List.getElem_cons_succ, List.getElem_cons_zero]); go_simp; try (with_reducible rfl); done)))
      try simp only [Act.put, List.getElem_toArray, List.getElem_cons_succ, List.getElem_cons_zero, List.setIfInBounds_toArray, List.set_cons_zero, List.set_cons_succ]
      (refine wpAnyH_take (i := 16) (v := ?_) rfl (by kernel_rfl) (by kernel_rfl) (by kernel_rfl) (fun _ _ _ h => h) (Or.inl ⟨by rfl, ?_⟩) (by assumption) ?_; rotate_left 1; (focus (intro wz hz; (try dsimp only at hz); (try simp only [List.getElem_toArray, List.getElem_cons_succ, List.getElem_cons_zero]); go_simp; try (with_reducible rfl); done)))
      try simp only [Act.put, List.getElem_toArray, List.getElem_cons_succ, List.getElem_cons_zero, List.setIfInBounds_toArray, List.set_cons_zero, List.set_cons_succ]
      (refine wpAnyH_take (i := 17) (v := ?_) rfl (by kernel_rfl) (by kernel_rfl) (by kernel_rfl) (fun _ _ _ h => h) (Or.inl ⟨by rfl, ?_⟩) (by assumption) ?_; rotate_left 1; (focus (intro wz hz; (try dsimp only at hz); (try simp only [List.getElem_toArray, List.getElem_cons_succ, List.getElem_cons_zero]); go_simp; try (with_reducible rfl); done)))
      try simp only [Act.put, List.getElem_toArray, List.getElem_cons_succ, List.getElem_cons_zero, List.setIfInBounds_toArray, List.set_cons_zero, List.set_cons_succ]
      (refine wpAnyH_ready (rs := [18]) (by kernel_rfl) (by simp) ?_; refine AllReadyH.cons rfl (fun K hK => ?_) AllReadyH.nil; (try simp only [List.getElem_toArray, List.getElem_cons_succ, List.getElem_cons_zero]); obtain ⟨x0, x1, x2, x3, x4, x5, x6⟩ := HX.out.fr hTn14; obtain ⟨f0, f1, f2, f3, f4, f5, f6⟩ := seven_fz (HFX.out.call HX.out.lt hTn14); go_simp; refine hK.out _ _ (⟨by simp [go_sem, hne, hne', (hout _ hTn14).1], by simp [go_sem, hne, hne', (hout _ hTn14).2]⟩) (fun hHeld => ?_); clear hK K)
      try simp only [Act.put, List.getElem_toArray, List.getElem_cons_succ, List.getElem_cons_zero, List.setIfInBounds_toArray, List.set_cons_zero, List.set_cons_succ]
      refine wpAnyH_done (by kernel_rfl) ?_ _
      clear hHeld
      have X2 := (HX.out.fr hTn14).put m (addAt K 0 a0 D) (addAt K 1 a1 D) (addAt K 2 a2 D) (addAt K 3 a3 D) (addAt K 4 a4 D) (addAt K 5 a5 D)
      have FX2 := (HFX.out.call HX.out.lt hTn14).put w1.heap.size m (addAt K 0 a0 D) (addAt K 1 a1 D) (addAt K 2 a2 D) (addAt K 3 a3 D) (addAt K 4 a4 D) (addAt K 5 a5 D)
      have hk2 := cell_put ((Below.cell hTn14 (p := ⟨w.heap.size, 0, none⟩) (World.block_lt_of_cell? _ _ hkr)).trans hkr) (show w1.heap.size ≠ w.heap.size by omega) m (addAt K 0 a0 D) (addAt K 1 a1 D) (addAt K 2 a2 D) (addAt K 3 a3 D) (addAt K 4 a4 D) (addAt K 5 a5 D)
      have hB2 := below_put (show w.heap.size ≤ w1.heap.size by omega) (Fr.fin hB hTn14) m (addAt K 0 a0 D) (addAt K 1 a1 D) (addAt K 2 a2 D) (addAt K 3 a3 D) (addAt K 4 a4 D) (addAt K 5 a5 D)
      refine gen_exit (F := fun W => Bx7 W w1.heap.size m (addAt K 0 a0 D) (addAt K 1 a1 D) (addAt K 2 a2 D) (addAt K 3 a3 D) (addAt K 4 a4 D) (addAt K 5 a5 D) ∧ Fz W w1.heap.size ∧ W.cell? ⟨w.heap.size, 0, none⟩ = some (.int .u8 ka) ∧ Below w.heap.size w W) ⟨X2, FX2, hk2, hB2⟩ (fun wt2 hF2 => ?_)
      clear X2 FX2 hk2 hB2
      obtain ⟨X2, FX2, hk2, hB2⟩ := hF2
      have HX2 := Lib.hid X2
      have HFX2 := Lib.hid FX2
      clear X2 FX2 HX HFX hB hkr e0 e1 hb5 hout hTn14 hbn14 hF0
      go_wp2
      go_roundw
      case rel => exact ⟨t + 1, _, _, _, _, _, _, by go_num, by omega, HC2, HX2, HFX2, hk2, hB2⟩
      case measure => simp [intOf]; omega
    · have hge : (l.length : Int) ≤ t := by omega
      obtain ⟨n, x0, x1, x2, x3, x4, x5, L, q, hn, hLq, k1, k2, k3, k4, k5, k6, k7⟩ := back_calls HC.out hkA.out
      have K1 := Lib.hid k1; have K2 := Lib.hid k2; have K3 := Lib.hid k3; have K4 := Lib.hid k4; have K5 := Lib.hid k5; have K6 := Lib.hid k6; have K7 := Lib.hid k7
      have hwn : IntKind.i64.wrap (n + 1) = n + 1 := IntWalk.i64_in _ (by omega)
      clear k1 k2 k3 k4 k5 k6 k7 hlt hn
      simp only [stV] at K1 K2 K3 K4 K5 K6
      have l0 := HX.out.lt
      obtain ⟨s0, s1, s2, s3, s4, s5, s6⟩ := id HX.out
      go_wp2_with fail
      refine (K1.out _).mono ?_; rintro e w2 ⟨rfl, hb2⟩
      have X2 := Lib.hid (HX.out.call hb2)
      have B2 := below_call hb2 hB.size hB
      clear s0 s1 s2 s3 s4 s5 s6 hb2 l0
      have l0 := X2.out.lt
      obtain ⟨s0, s1, s2, s3, s4, s5, s6⟩ := id X2.out
      go_wp2_with fail
      refine (K2.out _).mono ?_; rintro e w3 ⟨rfl, hb3⟩
      have X3 := Lib.hid (X2.out.call hb3)
      have B3 := below_call hb3 B2.size B2
      clear s0 s1 s2 s3 s4 s5 s6 hb3 l0
      have l0 := X3.out.lt
      obtain ⟨s0, s1, s2, s3, s4, s5, s6⟩ := id X3.out
      go_wp2_with fail
      refine (K3.out _).mono ?_; rintro e w4 ⟨rfl, hb4⟩
      have hg4 : Below w3.heap.size w3 w4 := by (repeat (first | (with_reducible exact Below.refl _ _) | ((with_reducible refine below_alloc ?_ ?_ _); · (first | omega | (simp; done) | (simp; omega))) | ((with_reducible refine below_setCell ?_ ?_ _); · (first | omega | (simp; done) | (simp; omega))) | (with_reducible refine Below.drew ?_) | (with_reducible refine below_drewN ?_ _) | ((with_reducible refine below_call (by assumption) ?_ ?_); · (first | omega | (simp; done) | (simp; omega)))))
      have X4 := Lib.hid (X3.out.call hg4)
      have V4 : Hid (Bx7 w4 w3.heap.size m x0 x1 x2 x3 x4 x5) := Lib.hid (Bx7.call (by simp [Bx7, go_sem]) hb4)
      have B4 := below_call hg4 B3.size B3
      clear s0 s1 s2 s3 s4 s5 s6 hb4 l0 hg4
      have l0 := X4.out.lt
      have m0 := V4.out.lt
      obtain ⟨s0, s1, s2, s3, s4, s5, s6⟩ := id X4.out
      obtain ⟨v0, v1, v2, v3, v4, v5, v6⟩ := id V4.out
      go_wp2_with fail
      refine (K4.out _).mono ?_; rintro e w5 ⟨rfl, hb5⟩
      have hg5 : Below w4.heap.size w4 w5 := by (repeat (first | (with_reducible exact Below.refl _ _) | ((with_reducible refine below_alloc ?_ ?_ _); · (first | omega | (simp; done) | (simp; omega))) | ((with_reducible refine below_setCell ?_ ?_ _); · (first | omega | (simp; done) | (simp; omega))) | (with_reducible refine Below.drew ?_) | (with_reducible refine below_drewN ?_ _) | ((with_reducible refine below_call (by assumption) ?_ ?_); · (first | omega | (simp; done) | (simp; omega)))))
      have X5 := Lib.hid (X4.out.call hg5)
      have V5 := Lib.hid (V4.out.call hg5)
      have B5 := below_call hg5 B4.size B4
      clear s0 s1 s2 s3 s4 s5 s6 v0 v1 v2 v3 v4 v5 v6 hb5 l0 m0 hg5
      have l0 := X5.out.lt
      have m0 := V5.out.lt
      obtain ⟨s0, s1, s2, s3, s4, s5, s6⟩ := id X5.out
      obtain ⟨v0, v1, v2, v3, v4, v5, v6⟩ := id V5.out
      go_wp2_with fail
      refine (K5.out _).mono ?_; rintro e w6 ⟨rfl, hb6⟩
      have hg6 : Below w5.heap.size w5 w6 := by (repeat (first | (with_reducible exact Below.refl _ _) | ((with_reducible refine below_alloc ?_ ?_ _); · (first | omega | (simp; done) | (simp; omega))) | ((with_reducible refine below_setCell ?_ ?_ _); · (first | omega | (simp; done) | (simp; omega))) | (with_reducible refine Below.drew ?_) | (with_reducible refine below_drewN ?_ _) | ((with_reducible refine below_call (by assumption) ?_ ?_); · (first | omega | (simp; done) | (simp; omega)))))
      have V6 := Lib.hid (V5.out.call hg6)
      have B6 := below_call hg6 B5.size B5
      clear s0 s1 s2 s3 s4 s5 s6 v0 v1 v2 v3 v4 v5 v6 hb6 l0 m0 hg6
      obtain ⟨v0, v1, v2, v3, v4, v5, v6⟩ := id V6.out
      go_wp2_with fail
      refine (K6.out _).mono ?_; rintro e w7 ⟨rfl, hb7⟩
      have B7 := below_call hb7 B6.size B6
      clear v0 v1 v2 v3 v4 v5 v6 hb7
      go_wp2_with fail
      refine (K7.out _).mono ?_; rintro e w8 ⟨rfl, hb8⟩
      have B8 := below_call hb8 B7.size B7
      go_wp2_with fail
      refine (awake_any _).mono ?_; rintro e w9 ⟨rfl, hb9⟩
      have B9 := below_call hb9 B8.size B8
      go_wp2
      go_ret
      exact ⟨rfl, B9⟩

set_option maxRecDepth 100000 in
theorem bback_lifted (os : Os) (started : os.Started) (H : Type) (enc : TypeId × Value → H) :
    ReturnsInHanded {} Try.checked os 6 .any (Rows.budgetBackSpec.pre6 enc Try.prog Try.f6 Rows.budgetBackRow.domain false) (Rows.budgetBackSpec.post enc Try.prog Try.f6 false true false false) := by
  refine returnsInHanded_of_change (C := Try.checked) own started (by kernel_rfl) Try.func6
    (ChangeSpec.witness6 (enc := enc) (C := Try.checked) false ⟨#[], #[.int .u16 0, .slice none 0 0, .agg #[.int .u8 0, .int .u8 0, .bool false]], []⟩ 8 (by kernel_rfl) (by kernel_rfl) (by kernel_rfl) (by kernel_rfl)) ?_
  intro W base args ds gs before hval0 hW hcnd _
  have hval : ∀ (j : Nat) t v, Try.f6.params[j]? = some t → args[j]? = some v → Value.okWide Try.prog W .any base t v := hval0
  have hW' := hW
  obtain ⟨p, q, hA0, hV, rfl, hfz, hnd⟩ := hW
  have hA : DataW.TrodAll enc Try.prog W 0 (fun _ => true) true Try.f6.params.toList args.toList ds p := hA0
  rw [Try.params6] at hA hval
  obtain ⟨v0, vs0, d0, ds0, p0, q0, hargs, rfl, rfl, h0, r0⟩ := trodAll_cons hA
  obtain ⟨v1, vs1, d1, ds1, p1, q1, rfl, rfl, rfl, h1, r1⟩ := trodAll_cons r0
  obtain ⟨v2, vs2, d2, ds2, p2, q2, rfl, rfl, rfl, h2, r2⟩ := trodAll_cons r1
  obtain ⟨rfl, rfl, rfl⟩ := trodAll_nil r2
  obtain rfl : args = #[v0, v1, v2] := by cases args; simp_all
  obtain ⟨rfl, rfl⟩ := trodVars_none hV
  obtain ⟨lim, rfl, rfl, rfl, hbr⟩ := open_int Try.underlying47 (hval 0 47 v0 rfl rfl) h0
  obtain ⟨l, hl, hll, hby⟩ := open_deeds (hval 1 48 v1 rfl rfl) h1
  obtain ⟨k, n, b, rfl, hkn⟩ := open_deed (hval 2 50 v2 rfl rfl) h2
  refine (bback_walk lim v1 l k n b W (bounds_u16 hbr) hl hll hby hkn.1).mono fun e W' ⟨he, hb⟩ => ?_
  subst he
  exact ⟨_, rfl, law_post rfl rfl Try.underlying4 (by kernel_rfl) rfl hW' hb⟩
theorem bback_holds : Rows.BudgetBackSaid :=
  OpenClaim.holds_of_wide 6 Try.f6 rfl rfl rfl rfl rfl rfl rfl ⟨rfl, rfl, rfl, rfl, rfl⟩ rfl rfl rfl rfl rfl (by kernel_rfl) Try.func6 (by kernel_rfl)
    (of_decide_eq_true (by kernel_rfl)) (by unfold Func.isWrapper; first | (rw [if_pos (by decide +kernel)]; kernel_rfl) | (rw [if_neg (by decide +kernel)]; exact ⟨rfl, rfl⟩))
    (fun os started H enc _ => bback_lifted os started H enc)
end Go.Proofs.Ytkohdfmhigejoaa
