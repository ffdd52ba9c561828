/- Layer 8: two states together: the document's. -/
import Derived.Test.YtkohdfmhigejoaaG8I
import Derived.Deep.RegionHeldLaw
namespace Go.Proofs.Ytkohdfmhigejoaa
open Go.RowKit
set_option linter.unusedVariables false
set_option linter.unusedSimpArgs false

/-- several ways that come to the same: what follows is laid once -/
theorem join_ways {p G : Prop} (h : Hid G → p) (g : G) : p := h (Lib.hid g)
theorem gen_exit {K : Exit → Act → World → Prop} {e : Exit} {a : Act} {W : World} (F : World → Prop) (hF : F W) (h : ∀ wt, F wt → K e a wt) : K e a W := h W hF
theorem Bx7.draw {W : World} {b : Nat} {c a0 a1 a2 a3 a4 a5 : Int} (h : Bx7 W b c a0 a1 a2 a3 a4 a5) : Bx7 W.drew b c a0 a1 a2 a3 a4 a5 := h.call (Below.drew (Below.refl _ _))
theorem Fz.draw {W : World} {b : Nat} (h : Fz W b) : Fz W.drew b := h
set_option maxRecDepth 100000 in
set_option maxHeartbeats 4000000 in
theorem dmerge_any (c a0 a1 a2 a3 a4 a5 d b0 b1 b2 b3 b4 b5 : Int) (w : World) :
    Calls Try.prog 12 #[stV c a0 a1 a2 a3 a4 a5, stV d b0 b1 b2 b3 b4 b5] w fun e w' => e = .returned (.tuple #[mrgV (mrgE c a0 a1 a2 a3 a4 a5 d b0 b1 b2 b3 b4 b5) c a0 a1 a2 a3 a4 a5 b0 b1 b2 b3 b4 b5, .int .i64 (mrgE c a0 a1 a2 a3 a4 a5 d b0 b1 b2 b3 b4 b5)]) ∧ Below w.heap.size w w' := by
  have ca := fun W => checkD_any c a0 a1 a2 a3 a4 a5 W
  have cb := fun W => checkD_any d b0 b1 b2 b3 b4 b5 W
  by_cases ha : chkN c a0 a1 a2 a3 a4 a5 = 0
  · by_cases hb : chkN d b0 b1 b2 b3 b4 b5 = 0
    · rw [ha] at ca
      rw [hb] at cb
      by_cases hcd : c = d
      · subst hcd
        have hsa := (chk0 ha).1
        have hsb := (chk0 hb).1
        obtain ⟨s0, s1, s2, s3, s4, s5⟩ := add_steps hsa hsb
        have HSA := Lib.hid hsa.wide
        have HSB := Lib.hid hsb.wide
        have ta := Lib.hid (fun W => total_any c a0 a1 a2 a3 a4 a5 W HSA.out)
        have tb := Lib.hid (fun W => total_any c b0 b1 b2 b3 b4 b5 W HSB.out)
        have HE : Hid (mrgE c a0 a1 a2 a3 a4 a5 c b0 b1 b2 b3 b4 b5 = if c < sumN a0 a1 a2 a3 a4 a5 + sumN b0 b1 b2 b3 b4 b5 then 7 else 0) := Lib.hid (by
          unfold mrgE; rw [if_pos ha, if_pos hb, if_pos rfl])
        have hw : IntKind.i64.wrap (sumN a0 a1 a2 a3 a4 a5 + sumN b0 b1 b2 b3 b4 b5) = sumN a0 a1 a2 a3 a4 a5 + sumN b0 b1 b2 b3 b4 b5 := IntWalk.i64_in _ (by have h1 := chk0 ha; have h2 := chk0 hb; omega)
        clear ha hb hsa hsb
        simp only [stV] at *
        go_enter Try.func12, Try.ntmps12
        go_wp2_with fail
        refine (ca _).mono ?_; rintro e w1 ⟨rfl, hb1⟩
        obtain ⟨hk1, hf1, hz1⟩ := bcellN (n := w.heap.size + 3) (by (try simp only [World.size_drew, World.size_alloc, World.size_setCell]); omega) hb1; have hz1_0 : w.heap.size < w1.heap.size := (by omega); have hz1_1 : w.heap.size + 1 < w1.heap.size := (by omega); have hz1_2 : w.heap.size + 2 < w1.heap.size := (by omega)
        go_wp2_with fail
        refine (cb _).mono ?_; rintro e w2 ⟨rfl, hb2⟩
        obtain ⟨hk2, hf2, hz2⟩ := bcellN (n := w.heap.size + 3) (by (try simp only [World.size_drew, World.size_alloc, World.size_setCell]); omega) hb2; have hz2_0 : w.heap.size < w2.heap.size := (by omega); have hz2_1 : w.heap.size + 1 < w2.heap.size := (by omega); have hz2_2 : w.heap.size + 2 < w2.heap.size := (by omega)
        go_wp2_with fail
        refine gen_world (F := fun wt => Bx7 wt (w.heap.size) c a0 a1 a2 a3 a4 a5 ∧ Bx7 wt (w.heap.size + 1) c b0 b1 b2 b3 b4 b5 ∧ Bx7 wt (w.heap.size + 1 + 1) 0 0 0 0 0 0 0 ∧ Fz wt (w.heap.size) ∧ Fz wt (w.heap.size + 1 + 1) ∧ Below w.heap.size w wt) ⟨by simp [Bx7, go_sem, hk1, hk2], by simp [Bx7, go_sem, hk1, hk2], by simp [Bx7, go_sem, hk1, hk2], fun o => (hf2 _ o (by omega)).trans ((hf1 _ o (by omega)).trans (by simp [go_sem])), fun o => (hf2 _ o (by omega)).trans ((hf1 _ o (by omega)).trans (by simp [go_sem])), by (repeat (first | (with_reducible exact Below.refl _ _) | ((with_reducible refine below_alloc ?_ ?_ _); · (first | omega | (simp; done) | (simp; omega))) | ((with_reducible refine below_setCell ?_ ?_ _); · (first | omega | (simp; done) | (simp; omega))) | (with_reducible refine Below.drew ?_) | (with_reducible refine below_drewN ?_ _) | ((with_reducible refine below_call (by assumption) ?_ ?_); · (first | omega | (simp; done) | (simp; omega)))))⟩ (fun wt0 hF => ?_)
        obtain ⟨X, Y, Z, FX, FZ, hB⟩ := hF
        clear hk1 hf1 hk2 hf2 hb1 hb2 hz1 hz2 hz1_0 hz1_1 hz1_2 hz2_0 hz2_1 hz2_2 w1 w2 ca cb
        have HX := Lib.hid X; have HFX := Lib.hid FX; have HY := Lib.hid Y; have HZ := Lib.hid Z; have HFZ := Lib.hid FZ
        have hT : Below wt0.heap.size wt0 wt0.drew := Below.drew (Below.refl _ _)
        have hout : ∀ w', Below wt0.heap.size wt0 w' → ((w'.cell? ⟨w.heap.size, 0, none⟩ = some (.int .i64 c) ∧ w'.cell? ⟨w.heap.size, 1, none⟩ = some (.int .i64 a0) ∧ w'.cell? ⟨w.heap.size, 2, none⟩ = some (.int .i64 a1) ∧ w'.cell? ⟨w.heap.size, 3, none⟩ = some (.int .i64 a2) ∧ w'.cell? ⟨w.heap.size, 4, none⟩ = some (.int .i64 a3) ∧ w'.cell? ⟨w.heap.size, 5, none⟩ = some (.int .i64 a4) ∧ w'.cell? ⟨w.heap.size, 6, none⟩ = some (.int .i64 a5)) ∧ (w'.cell? ⟨w.heap.size + 1, 0, none⟩ = some (.int .i64 c) ∧ w'.cell? ⟨w.heap.size + 1, 1, none⟩ = some (.int .i64 b0) ∧ w'.cell? ⟨w.heap.size + 1, 2, none⟩ = some (.int .i64 b1) ∧ w'.cell? ⟨w.heap.size + 1, 3, none⟩ = some (.int .i64 b2) ∧ w'.cell? ⟨w.heap.size + 1, 4, none⟩ = some (.int .i64 b3) ∧ w'.cell? ⟨w.heap.size + 1, 5, none⟩ = some (.int .i64 b4) ∧ w'.cell? ⟨w.heap.size + 1, 6, none⟩ = some (.int .i64 b5))) := fun w' h => ⟨X.call h, Y.call h⟩
        clear X Y Z FX FZ
        refine wp_region_held_drew (S := fun w' => (w'.cell? ⟨w.heap.size, 0, none⟩ = some (.int .i64 c) ∧ w'.cell? ⟨w.heap.size, 1, none⟩ = some (.int .i64 a0) ∧ w'.cell? ⟨w.heap.size, 2, none⟩ = some (.int .i64 a1) ∧ w'.cell? ⟨w.heap.size, 3, none⟩ = some (.int .i64 a2) ∧ w'.cell? ⟨w.heap.size, 4, none⟩ = some (.int .i64 a3) ∧ w'.cell? ⟨w.heap.size, 5, none⟩ = some (.int .i64 a4) ∧ w'.cell? ⟨w.heap.size, 6, none⟩ = some (.int .i64 a5)) ∧ (w'.cell? ⟨w.heap.size + 1, 0, none⟩ = some (.int .i64 c) ∧ w'.cell? ⟨w.heap.size + 1, 1, none⟩ = some (.int .i64 b0) ∧ w'.cell? ⟨w.heap.size + 1, 2, none⟩ = some (.int .i64 b1) ∧ w'.cell? ⟨w.heap.size + 1, 3, none⟩ = some (.int .i64 b2) ∧ w'.cell? ⟨w.heap.size + 1, 4, none⟩ = some (.int .i64 b3) ∧ w'.cell? ⟨w.heap.size + 1, 5, none⟩ = some (.int .i64 b4) ∧ w'.cell? ⟨w.heap.size + 1, 6, none⟩ = some (.int .i64 b5))) (by kernel_rfl) (hout _ (by assumption)) (fun hHeld => ?_)
        (refine wpAnyH_take (i := 0) (v := ?_) rfl (by kernel_rfl) (by kernel_rfl) (by kernel_rfl) (fun _ _ _ h => h) (Or.inl ⟨by rfl, ?_⟩) (by assumption) ?_; rotate_left 1; (focus (intro wz hz; (try dsimp only at hz); (try simp only [List.getElem_toArray, List.getElem_cons_succ, List.getElem_cons_zero]); go_simp; try (with_reducible rfl); done)))
        try simp only [Act.put, List.getElem_toArray, List.getElem_cons_succ, List.getElem_cons_zero, List.setIfInBounds_toArray, List.set_cons_zero, List.set_cons_succ]
        (refine wpAnyH_take (i := 2) (v := ?_) rfl (by kernel_rfl) (by kernel_rfl) (by kernel_rfl) (fun _ _ _ h => h) (Or.inl ⟨by rfl, ?_⟩) (by assumption) ?_; rotate_left 1; (focus (intro wz hz; (try dsimp only at hz); (try simp only [List.getElem_toArray, List.getElem_cons_succ, List.getElem_cons_zero]); go_simp; try (with_reducible rfl); done)))
        try simp only [Act.put, List.getElem_toArray, List.getElem_cons_succ, List.getElem_cons_zero, List.setIfInBounds_toArray, List.set_cons_zero, List.set_cons_succ]
        (refine wpAnyH_take (i := 5) (v := ?_) rfl (by kernel_rfl) (by kernel_rfl) (by kernel_rfl) (fun _ _ _ h => h) (Or.inl ⟨by rfl, ?_⟩) (by assumption) ?_; rotate_left 1; (focus (intro wz hz; (try dsimp only at hz); (try simp only [List.getElem_toArray, List.getElem_cons_succ, List.getElem_cons_zero]); go_simp; try (with_reducible rfl); done)))
        try simp only [Act.put, List.getElem_toArray, List.getElem_cons_succ, List.getElem_cons_zero, List.setIfInBounds_toArray, List.set_cons_zero, List.set_cons_succ]
        (refine wpAnyH_take (i := 6) (v := ?_) rfl (by kernel_rfl) (by kernel_rfl) (by kernel_rfl) (fun _ _ _ h => h) (Or.inl ⟨by rfl, ?_⟩) (by assumption) ?_; rotate_left 1; (focus (intro wz hz; (try dsimp only at hz); (try simp only [List.getElem_toArray, List.getElem_cons_succ, List.getElem_cons_zero]); go_simp; try (with_reducible rfl); done)))
        try simp only [Act.put, List.getElem_toArray, List.getElem_cons_succ, List.getElem_cons_zero, List.setIfInBounds_toArray, List.set_cons_zero, List.set_cons_succ]
        (refine wpAnyH_ready (rs := [1]) (by kernel_rfl) (by simp) ?_; refine AllReadyH.cons rfl (fun K hK => ?_) AllReadyH.nil; (try simp only [List.getElem_toArray, List.getElem_cons_succ, List.getElem_cons_zero]); go_simp; go_at_call 32; refine (ta.out _).mono ?_; rintro e wn1 ⟨rfl, hbn1⟩; have hT1 : Below wt0.heap.size wt0 wn1 := (by first | exact hT.trans (hbn1.mono (Nat.le_refl _)) | exact hT1.trans (hbn1.mono hT1.size)); (try (go_wp2_with fail)); refine hK.out _ _ (hout _ (by assumption)) (fun hHeld => ?_); clear hK K)
        try simp only [Act.put, List.getElem_toArray, List.getElem_cons_succ, List.getElem_cons_zero, List.setIfInBounds_toArray, List.set_cons_zero, List.set_cons_succ]
        (refine wpAnyH_ready (rs := [3]) (by kernel_rfl) (by simp) ?_; refine AllReadyH.cons rfl (fun K hK => ?_) AllReadyH.nil; (try simp only [List.getElem_toArray, List.getElem_cons_succ, List.getElem_cons_zero]); go_simp; go_at_call 32; refine (tb.out _).mono ?_; rintro e wn3 ⟨rfl, hbn3⟩; have hT3 : Below wt0.heap.size wt0 wn3 := (by first | exact hT.trans (hbn3.mono (Nat.le_refl _)) | exact hT1.trans (hbn3.mono hT1.size)); (try (go_wp2_with fail)); refine hK.out _ _ (hout _ (by assumption)) (fun hHeld => ?_); clear hK K)
        try simp only [Act.put, List.getElem_toArray, List.getElem_cons_succ, List.getElem_cons_zero, List.setIfInBounds_toArray, List.set_cons_zero, List.set_cons_succ]
        (refine wpAnyH_take (i := 4) (v := ?_) rfl (by kernel_rfl) (by kernel_rfl) (by kernel_rfl) (fun _ _ _ h => h) (Or.inl ⟨by rfl, ?_⟩) (by assumption) ?_; rotate_left 1; (focus (intro wz hz; (try dsimp only at hz); (try simp only [List.getElem_toArray, List.getElem_cons_succ, List.getElem_cons_zero]); go_simp; try (with_reducible rfl); done)))
        try simp only [Act.put, List.getElem_toArray, List.getElem_cons_succ, List.getElem_cons_zero, List.setIfInBounds_toArray, List.set_cons_zero, List.set_cons_succ]
        (refine wpAnyH_take (i := 7) (v := ?_) rfl (by kernel_rfl) (by kernel_rfl) (by kernel_rfl) (fun _ _ _ h => h) (Or.inl ⟨by rfl, ?_⟩) (by assumption) ?_; rotate_left 1; (focus (intro wz hz; (try dsimp only at hz); (try simp only [List.getElem_toArray, List.getElem_cons_succ, List.getElem_cons_zero]); go_simp; try (with_reducible rfl); done)))
        try simp only [Act.put, List.getElem_toArray, List.getElem_cons_succ, List.getElem_cons_zero, List.setIfInBounds_toArray, List.set_cons_zero, List.set_cons_succ]
        (refine wpAnyH_take (i := 8) (v := ?_) rfl (by kernel_rfl) (by kernel_rfl) (by kernel_rfl) (fun _ _ _ h => h) (Or.inl ⟨by rfl, ?_⟩) (by assumption) ?_; rotate_left 1; (focus (intro wz hz; (try dsimp only at hz); (try simp only [List.getElem_toArray, List.getElem_cons_succ, List.getElem_cons_zero]); go_simp; try (with_reducible rfl); done)))
        try simp only [Act.put, List.getElem_toArray, List.getElem_cons_succ, List.getElem_cons_zero, List.setIfInBounds_toArray, List.set_cons_zero, List.set_cons_succ]
        refine wpAnyH_done (by kernel_rfl) ?_ _
        clear hHeld
        have X := HX.out.call hT3; have Y := HY.out.call hT3; have Z := HZ.out.call hT3
        have FX := HFX.out.call HX.out.lt hT3; have FZ := HFZ.out.call HZ.out.lt hT3
        have hB3 := below_call hT3 hB.size hB
        clear hout HX HFX HY HZ HFZ hB
        have HX := Lib.hid X; have HFX := Lib.hid FX; have HY := Lib.hid Y; have HZ := Lib.hid Z; have HFZ := Lib.hid FZ
        have hB := hB3
        clear X Y Z FX FZ hB3
        by_cases hgt : c < sumN a0 a1 a2 a3 a4 a5 + sumN b0 b1 b2 b3 b4 b5
        · have hE := Lib.hid (HE.out.trans (if_pos hgt))
          obtain ⟨z0, z1, z2, z3, z4, z5, z6⟩ := id HZ.out
          obtain ⟨f0, f1, f2, f3, f4, f5, f6⟩ : wn3.frozen? ⟨w.heap.size + 1 + 1, 0, none⟩ = false ∧ wn3.frozen? ⟨w.heap.size + 1 + 1, 1, none⟩ = false ∧ wn3.frozen? ⟨w.heap.size + 1 + 1, 2, none⟩ = false ∧ wn3.frozen? ⟨w.heap.size + 1 + 1, 3, none⟩ = false ∧ wn3.frozen? ⟨w.heap.size + 1 + 1, 4, none⟩ = false ∧ wn3.frozen? ⟨w.heap.size + 1 + 1, 5, none⟩ = false ∧ wn3.frozen? ⟨w.heap.size + 1 + 1, 6, none⟩ = false := ⟨HFZ.out _, HFZ.out _, HFZ.out _, HFZ.out _, HFZ.out _, HFZ.out _, HFZ.out _⟩
          go_wp2
          refine bodyPost_ret (v := .tuple #[stV 0 0 0 0 0 0 0, .int .i64 7]) (by simp [results, Try.results12, go_sem, z0, z1, z2, z3, z4, z5, z6]) rfl ⟨by rw [hE.out, mrgV_no (by decide)], ?_⟩
          (repeat (first | (with_reducible exact hB) | ((with_reducible refine below_setCell ?_ ?_ _); · (first | omega | (simp; omega)))))
        · have hE := Lib.hid (HE.out.trans (if_neg hgt))
          have hle : sumN a0 a1 a2 a3 a4 a5 + sumN b0 b1 b2 b3 b4 b5 ≤ c := by omega
          go_wp2
          refine gen_world (F := fun wt => Bx7 wt (w.heap.size) c a0 a1 a2 a3 a4 a5 ∧ Bx7 wt (w.heap.size + 1) c b0 b1 b2 b3 b4 b5 ∧ Bx7 wt (w.heap.size + 1 + 1) 0 0 0 0 0 0 0 ∧ Fz wt (w.heap.size) ∧ Fz wt (w.heap.size + 1 + 1) ∧ Below w.heap.size w wt) ⟨HX.out, HY.out, HZ.out, HFX.out, HFZ.out, hB⟩ (fun wt0 hF => ?_)
          clear HX HY HZ HFX HFZ hB hgt hle hw HE ta tb HSA HSB
          obtain ⟨X, Y, Z, FX, FZ, hB⟩ := hF
          refine wp_loop_rounds 7 ?_
          rw [rounds_succ]
          obtain ⟨x0, x1, x2, x3, x4, x5, x6⟩ := id X
          obtain ⟨y0, y1, y2, y3, y4, y5, y6⟩ := id Y
          have fx : wt0.frozen? ⟨w.heap.size, 1, none⟩ = false := FX _
          have HX := Lib.hid X; have HFX := Lib.hid FX; have HY := Lib.hid Y; have HZ := Lib.hid Z; have HFZ := Lib.hid FZ
          clear X FX Y Z FZ
          go_wp2
          refine join_ways (G := ?GG0) ?way0 ?rest0
          case way0 =>
            intro hWay
            go_region_with (skip)
            all_goals exact hWay.out
          clear x0 x1 x2 x3 x4 x5 x6 y0 y1 y2 y3 y4 y5 y6 fx
          refine gen_exit (F := fun wt => Bx7 wt (w.heap.size) c (a0 + b0) a1 a2 a3 a4 a5 ∧ Bx7 wt (w.heap.size + 1) c b0 b1 b2 b3 b4 b5 ∧ Bx7 wt (w.heap.size + 1 + 1) 0 0 0 0 0 0 0 ∧ Fz wt (w.heap.size) ∧ Fz wt (w.heap.size + 1 + 1) ∧ Below w.heap.size w wt) ⟨(HX.out.set0 _).draw, (HY.out.far (by first | (simp; done) | (simp; omega)) _).draw, (HZ.out.far (by first | (simp; done) | (simp; omega)) _).draw, (HFX.out.set _ _).draw, (HFZ.out.set _ _).draw, by (repeat (first | (with_reducible exact Below.refl _ _) | ((with_reducible refine below_alloc ?_ ?_ _); · (first | omega | (simp; done) | (simp; omega))) | ((with_reducible refine below_setCell ?_ ?_ _); · (first | omega | (simp; done) | (simp; omega))) | (with_reducible refine Below.drew ?_) | (with_reducible refine below_drewN ?_ _) | ((with_reducible refine below_call (by assumption) ?_ ?_); · (first | omega | (simp; done) | (simp; omega)))))⟩ (fun wt1 hF => ?_)
          obtain ⟨X, Y, Z, FX, FZ, hB2⟩ := hF
          clear HX HY HZ HFX HFZ hB
          have hB := hB2
          clear hB2
          go_wp2_with fail
          rw [rounds_succ]
          obtain ⟨x0, x1, x2, x3, x4, x5, x6⟩ := id X
          obtain ⟨y0, y1, y2, y3, y4, y5, y6⟩ := id Y
          have fx : wt1.frozen? ⟨w.heap.size, 2, none⟩ = false := FX _
          have HX := Lib.hid X; have HFX := Lib.hid FX; have HY := Lib.hid Y; have HZ := Lib.hid Z; have HFZ := Lib.hid FZ
          clear X FX Y Z FZ
          go_wp2
          refine join_ways (G := ?GG1) ?way1 ?rest1
          case way1 =>
            intro hWay
            go_region_with (skip)
            all_goals exact hWay.out
          clear x0 x1 x2 x3 x4 x5 x6 y0 y1 y2 y3 y4 y5 y6 fx
          refine gen_exit (F := fun wt => Bx7 wt (w.heap.size) c (a0 + b0) (a1 + b1) a2 a3 a4 a5 ∧ Bx7 wt (w.heap.size + 1) c b0 b1 b2 b3 b4 b5 ∧ Bx7 wt (w.heap.size + 1 + 1) 0 0 0 0 0 0 0 ∧ Fz wt (w.heap.size) ∧ Fz wt (w.heap.size + 1 + 1) ∧ Below w.heap.size w wt) ⟨(HX.out.set1 _).draw, (HY.out.far (by first | (simp; done) | (simp; omega)) _).draw, (HZ.out.far (by first | (simp; done) | (simp; omega)) _).draw, (HFX.out.set _ _).draw, (HFZ.out.set _ _).draw, by (repeat (first | (with_reducible exact Below.refl _ _) | ((with_reducible refine below_alloc ?_ ?_ _); · (first | omega | (simp; done) | (simp; omega))) | ((with_reducible refine below_setCell ?_ ?_ _); · (first | omega | (simp; done) | (simp; omega))) | (with_reducible refine Below.drew ?_) | (with_reducible refine below_drewN ?_ _) | ((with_reducible refine below_call (by assumption) ?_ ?_); · (first | omega | (simp; done) | (simp; omega)))))⟩ (fun wt2 hF => ?_)
          obtain ⟨X, Y, Z, FX, FZ, hB2⟩ := hF
          clear HX HY HZ HFX HFZ hB
          have hB := hB2
          clear hB2
          go_wp2_with fail
          rw [rounds_succ]
          obtain ⟨x0, x1, x2, x3, x4, x5, x6⟩ := id X
          obtain ⟨y0, y1, y2, y3, y4, y5, y6⟩ := id Y
          have fx : wt2.frozen? ⟨w.heap.size, 3, none⟩ = false := FX _
          have HX := Lib.hid X; have HFX := Lib.hid FX; have HY := Lib.hid Y; have HZ := Lib.hid Z; have HFZ := Lib.hid FZ
          clear X FX Y Z FZ
          go_wp2
          refine join_ways (G := ?GG2) ?way2 ?rest2
          case way2 =>
            intro hWay
            go_region_with (skip)
            all_goals exact hWay.out
          clear x0 x1 x2 x3 x4 x5 x6 y0 y1 y2 y3 y4 y5 y6 fx
          refine gen_exit (F := fun wt => Bx7 wt (w.heap.size) c (a0 + b0) (a1 + b1) (a2 + b2) a3 a4 a5 ∧ Bx7 wt (w.heap.size + 1) c b0 b1 b2 b3 b4 b5 ∧ Bx7 wt (w.heap.size + 1 + 1) 0 0 0 0 0 0 0 ∧ Fz wt (w.heap.size) ∧ Fz wt (w.heap.size + 1 + 1) ∧ Below w.heap.size w wt) ⟨(HX.out.set2 _).draw, (HY.out.far (by first | (simp; done) | (simp; omega)) _).draw, (HZ.out.far (by first | (simp; done) | (simp; omega)) _).draw, (HFX.out.set _ _).draw, (HFZ.out.set _ _).draw, by (repeat (first | (with_reducible exact Below.refl _ _) | ((with_reducible refine below_alloc ?_ ?_ _); · (first | omega | (simp; done) | (simp; omega))) | ((with_reducible refine below_setCell ?_ ?_ _); · (first | omega | (simp; done) | (simp; omega))) | (with_reducible refine Below.drew ?_) | (with_reducible refine below_drewN ?_ _) | ((with_reducible refine below_call (by assumption) ?_ ?_); · (first | omega | (simp; done) | (simp; omega)))))⟩ (fun wt3 hF => ?_)
          obtain ⟨X, Y, Z, FX, FZ, hB2⟩ := hF
          clear HX HY HZ HFX HFZ hB
          have hB := hB2
          clear hB2
          go_wp2_with fail
          rw [rounds_succ]
          obtain ⟨x0, x1, x2, x3, x4, x5, x6⟩ := id X
          obtain ⟨y0, y1, y2, y3, y4, y5, y6⟩ := id Y
          have fx : wt3.frozen? ⟨w.heap.size, 4, none⟩ = false := FX _
          have HX := Lib.hid X; have HFX := Lib.hid FX; have HY := Lib.hid Y; have HZ := Lib.hid Z; have HFZ := Lib.hid FZ
          clear X FX Y Z FZ
          go_wp2
          refine join_ways (G := ?GG3) ?way3 ?rest3
          case way3 =>
            intro hWay
            go_region_with (skip)
            all_goals exact hWay.out
          clear x0 x1 x2 x3 x4 x5 x6 y0 y1 y2 y3 y4 y5 y6 fx
          refine gen_exit (F := fun wt => Bx7 wt (w.heap.size) c (a0 + b0) (a1 + b1) (a2 + b2) (a3 + b3) a4 a5 ∧ Bx7 wt (w.heap.size + 1) c b0 b1 b2 b3 b4 b5 ∧ Bx7 wt (w.heap.size + 1 + 1) 0 0 0 0 0 0 0 ∧ Fz wt (w.heap.size) ∧ Fz wt (w.heap.size + 1 + 1) ∧ Below w.heap.size w wt) ⟨(HX.out.set3 _).draw, (HY.out.far (by first | (simp; done) | (simp; omega)) _).draw, (HZ.out.far (by first | (simp; done) | (simp; omega)) _).draw, (HFX.out.set _ _).draw, (HFZ.out.set _ _).draw, by (repeat (first | (with_reducible exact Below.refl _ _) | ((with_reducible refine below_alloc ?_ ?_ _); · (first | omega | (simp; done) | (simp; omega))) | ((with_reducible refine below_setCell ?_ ?_ _); · (first | omega | (simp; done) | (simp; omega))) | (with_reducible refine Below.drew ?_) | (with_reducible refine below_drewN ?_ _) | ((with_reducible refine below_call (by assumption) ?_ ?_); · (first | omega | (simp; done) | (simp; omega)))))⟩ (fun wt4 hF => ?_)
          obtain ⟨X, Y, Z, FX, FZ, hB2⟩ := hF
          clear HX HY HZ HFX HFZ hB
          have hB := hB2
          clear hB2
          go_wp2_with fail
          rw [rounds_succ]
          obtain ⟨x0, x1, x2, x3, x4, x5, x6⟩ := id X
          obtain ⟨y0, y1, y2, y3, y4, y5, y6⟩ := id Y
          have fx : wt4.frozen? ⟨w.heap.size, 5, none⟩ = false := FX _
          have HX := Lib.hid X; have HFX := Lib.hid FX; have HY := Lib.hid Y; have HZ := Lib.hid Z; have HFZ := Lib.hid FZ
          clear X FX Y Z FZ
          go_wp2
          refine join_ways (G := ?GG4) ?way4 ?rest4
          case way4 =>
            intro hWay
            go_region_with (skip)
            all_goals exact hWay.out
          clear x0 x1 x2 x3 x4 x5 x6 y0 y1 y2 y3 y4 y5 y6 fx
          refine gen_exit (F := fun wt => Bx7 wt (w.heap.size) c (a0 + b0) (a1 + b1) (a2 + b2) (a3 + b3) (a4 + b4) a5 ∧ Bx7 wt (w.heap.size + 1) c b0 b1 b2 b3 b4 b5 ∧ Bx7 wt (w.heap.size + 1 + 1) 0 0 0 0 0 0 0 ∧ Fz wt (w.heap.size) ∧ Fz wt (w.heap.size + 1 + 1) ∧ Below w.heap.size w wt) ⟨(HX.out.set4 _).draw, (HY.out.far (by first | (simp; done) | (simp; omega)) _).draw, (HZ.out.far (by first | (simp; done) | (simp; omega)) _).draw, (HFX.out.set _ _).draw, (HFZ.out.set _ _).draw, by (repeat (first | (with_reducible exact Below.refl _ _) | ((with_reducible refine below_alloc ?_ ?_ _); · (first | omega | (simp; done) | (simp; omega))) | ((with_reducible refine below_setCell ?_ ?_ _); · (first | omega | (simp; done) | (simp; omega))) | (with_reducible refine Below.drew ?_) | (with_reducible refine below_drewN ?_ _) | ((with_reducible refine below_call (by assumption) ?_ ?_); · (first | omega | (simp; done) | (simp; omega)))))⟩ (fun wt5 hF => ?_)
          obtain ⟨X, Y, Z, FX, FZ, hB2⟩ := hF
          clear HX HY HZ HFX HFZ hB
          have hB := hB2
          clear hB2
          go_wp2_with fail
          rw [rounds_succ]
          obtain ⟨x0, x1, x2, x3, x4, x5, x6⟩ := id X
          obtain ⟨y0, y1, y2, y3, y4, y5, y6⟩ := id Y
          have fx : wt5.frozen? ⟨w.heap.size, 6, none⟩ = false := FX _
          have HX := Lib.hid X; have HFX := Lib.hid FX; have HY := Lib.hid Y; have HZ := Lib.hid Z; have HFZ := Lib.hid FZ
          clear X FX Y Z FZ
          go_wp2
          refine join_ways (G := ?GG5) ?way5 ?rest5
          case way5 =>
            intro hWay
            go_region_with (skip)
            all_goals exact hWay.out
          clear x0 x1 x2 x3 x4 x5 x6 y0 y1 y2 y3 y4 y5 y6 fx
          refine gen_exit (F := fun wt => Bx7 wt (w.heap.size) c (a0 + b0) (a1 + b1) (a2 + b2) (a3 + b3) (a4 + b4) (a5 + b5) ∧ Bx7 wt (w.heap.size + 1) c b0 b1 b2 b3 b4 b5 ∧ Bx7 wt (w.heap.size + 1 + 1) 0 0 0 0 0 0 0 ∧ Fz wt (w.heap.size) ∧ Fz wt (w.heap.size + 1 + 1) ∧ Below w.heap.size w wt) ⟨(HX.out.set5 _).draw, (HY.out.far (by first | (simp; done) | (simp; omega)) _).draw, (HZ.out.far (by first | (simp; done) | (simp; omega)) _).draw, (HFX.out.set _ _).draw, (HFZ.out.set _ _).draw, by (repeat (first | (with_reducible exact Below.refl _ _) | ((with_reducible refine below_alloc ?_ ?_ _); · (first | omega | (simp; done) | (simp; omega))) | ((with_reducible refine below_setCell ?_ ?_ _); · (first | omega | (simp; done) | (simp; omega))) | (with_reducible refine Below.drew ?_) | (with_reducible refine below_drewN ?_ _) | ((with_reducible refine below_call (by assumption) ?_ ?_); · (first | omega | (simp; done) | (simp; omega)))))⟩ (fun wt6 hF => ?_)
          obtain ⟨X, Y, Z, FX, FZ, hB2⟩ := hF
          clear HX HY HZ HFX HFZ hB
          have hB := hB2
          clear hB2
          go_wp2_with fail
          rw [rounds_succ]
          obtain ⟨x0, x1, x2, x3, x4, x5, x6⟩ := id X
          obtain ⟨z0, z1, z2, z3, z4, z5, z6⟩ := id Z
          obtain ⟨f0, f1, f2, f3, f4, f5, f6⟩ : wt6.frozen? ⟨w.heap.size + 1 + 1, 0, none⟩ = false ∧ wt6.frozen? ⟨w.heap.size + 1 + 1, 1, none⟩ = false ∧ wt6.frozen? ⟨w.heap.size + 1 + 1, 2, none⟩ = false ∧ wt6.frozen? ⟨w.heap.size + 1 + 1, 3, none⟩ = false ∧ wt6.frozen? ⟨w.heap.size + 1 + 1, 4, none⟩ = false ∧ wt6.frozen? ⟨w.heap.size + 1 + 1, 5, none⟩ = false ∧ wt6.frozen? ⟨w.heap.size + 1 + 1, 6, none⟩ = false := ⟨FZ _, FZ _, FZ _, FZ _, FZ _, FZ _, FZ _⟩
          clear X Y Z FX FZ
          go_wp2
          refine bodyPost_ret (v := .tuple #[stV c (a0 + b0) (a1 + b1) (a2 + b2) (a3 + b3) (a4 + b4) (a5 + b5), .int .i64 0]) (by simp [results, Try.results12, go_sem, z0, z1, z2, z3, z4, z5, z6]) rfl ⟨by rw [hE.out, mrgV_yes], ?_⟩
          (repeat (first | (with_reducible exact hB) | ((with_reducible refine below_setCell ?_ ?_ _); · (first | omega | (simp; omega)))))
      · rw [show mrgE c a0 a1 a2 a3 a4 a5 d b0 b1 b2 b3 b4 b5 = 2 from by unfold mrgE; rw [if_pos ha, if_pos hb, if_neg hcd], mrgV_no (by decide)]
        clear ha hb
        simp only [stV] at *
        go_enter Try.func12, Try.ntmps12
        go_wp2_with fail
        refine (ca _).mono ?_; rintro e w1 ⟨rfl, hb1⟩
        obtain ⟨hk1, hf1, hz1⟩ := bcellN (n := w.heap.size + 3) (by (try simp only [World.size_drew, World.size_alloc, World.size_setCell]); omega) hb1; have hz1_0 : w.heap.size < w1.heap.size := (by omega); have hz1_1 : w.heap.size + 1 < w1.heap.size := (by omega); have hz1_2 : w.heap.size + 2 < w1.heap.size := (by omega)
        go_wp2_with fail
        refine (cb _).mono ?_; rintro e w2 ⟨rfl, hb2⟩
        obtain ⟨hk2, hf2, hz2⟩ := bcellN (n := w.heap.size + 3) (by (try simp only [World.size_drew, World.size_alloc, World.size_setCell]); omega) hb2; have hz2_0 : w.heap.size < w2.heap.size := (by omega); have hz2_1 : w.heap.size + 1 < w2.heap.size := (by omega); have hz2_2 : w.heap.size + 2 < w2.heap.size := (by omega)
        go_wp2
        refine bodyPost_ret (v := .tuple #[stV 0 0 0 0 0 0 0, .int .i64 2]) (by simp [results, Try.results12, go_sem, hk1, hz1_0, hz1_1, hz1_2, hk2, hz2_0, hz2_1, hz2_2]) rfl ⟨rfl, ?_⟩
        (repeat (first | (with_reducible exact Below.refl _ _) | ((with_reducible refine below_alloc ?_ ?_ _); · (first | omega | (simp; done) | (simp; omega))) | ((with_reducible refine below_setCell ?_ ?_ _); · (first | omega | (simp; done) | (simp; omega))) | (with_reducible refine Below.drew ?_) | (with_reducible refine below_drewN ?_ _) | ((with_reducible refine below_call (by assumption) ?_ ?_); · (first | omega | (simp; done) | (simp; omega)))))
    · rw [show mrgE c a0 a1 a2 a3 a4 a5 d b0 b1 b2 b3 b4 b5 = chkN d b0 b1 b2 b3 b4 b5 from by unfold mrgE; rw [if_pos ha, if_neg hb], mrgV_no hb]
      rw [ha] at ca
      clear ha
      generalize chkN d b0 b1 b2 b3 b4 b5 = E at cb hb ⊢
      simp only [stV] at *
      go_enter Try.func12, Try.ntmps12
      go_wp2_with fail
      refine (ca _).mono ?_; rintro e w1 ⟨rfl, hb1⟩
      obtain ⟨hk1, hf1, hz1⟩ := bcellN (n := w.heap.size + 3) (by (try simp only [World.size_drew, World.size_alloc, World.size_setCell]); omega) hb1; have hz1_0 : w.heap.size < w1.heap.size := (by omega); have hz1_1 : w.heap.size + 1 < w1.heap.size := (by omega); have hz1_2 : w.heap.size + 2 < w1.heap.size := (by omega)
      go_wp2_with fail
      refine (cb _).mono ?_; rintro e w2 ⟨rfl, hb2⟩
      obtain ⟨hk2, hf2, hz2⟩ := bcellN (n := w.heap.size + 3) (by (try simp only [World.size_drew, World.size_alloc, World.size_setCell]); omega) hb2; have hz2_0 : w.heap.size < w2.heap.size := (by omega); have hz2_1 : w.heap.size + 1 < w2.heap.size := (by omega); have hz2_2 : w.heap.size + 2 < w2.heap.size := (by omega)
      go_wp2_with fail
      refine (cb _).mono ?_; rintro e w3 ⟨rfl, hb3⟩
      obtain ⟨hk3, hf3, hz3⟩ := bcellN (n := w.heap.size + 3) (by (try simp only [World.size_drew, World.size_alloc, World.size_setCell]); omega) hb3; have hz3_0 : w.heap.size < w3.heap.size := (by omega); have hz3_1 : w.heap.size + 1 < w3.heap.size := (by omega); have hz3_2 : w.heap.size + 2 < w3.heap.size := (by omega)
      go_wp2
      refine bodyPost_ret (v := .tuple #[stV 0 0 0 0 0 0 0, .int .i64 E]) (by simp [results, Try.results12, go_sem, hk1, hz1_0, hz1_1, hz1_2, hk2, hz2_0, hz2_1, hz2_2, hk3, hz3_0, hz3_1, hz3_2]) rfl ⟨rfl, ?_⟩
      (repeat (first | (with_reducible exact Below.refl _ _) | ((with_reducible refine below_alloc ?_ ?_ _); · (first | omega | (simp; done) | (simp; omega))) | ((with_reducible refine below_setCell ?_ ?_ _); · (first | omega | (simp; done) | (simp; omega))) | (with_reducible refine Below.drew ?_) | (with_reducible refine below_drewN ?_ _) | ((with_reducible refine below_call (by assumption) ?_ ?_); · (first | omega | (simp; done) | (simp; omega)))))
  · rw [show mrgE c a0 a1 a2 a3 a4 a5 d b0 b1 b2 b3 b4 b5 = chkN c a0 a1 a2 a3 a4 a5 from by unfold mrgE; rw [if_neg ha], mrgV_no ha]
    generalize chkN c a0 a1 a2 a3 a4 a5 = E at ca ha ⊢
    clear cb
    simp only [stV] at *
    go_enter Try.func12, Try.ntmps12
    go_wp2_with fail
    refine (ca _).mono ?_; rintro e w1 ⟨rfl, hb1⟩
    obtain ⟨hk1, hf1, hz1⟩ := bcellN (n := w.heap.size + 3) (by (try simp only [World.size_drew, World.size_alloc, World.size_setCell]); omega) hb1; have hz1_0 : w.heap.size < w1.heap.size := (by omega); have hz1_1 : w.heap.size + 1 < w1.heap.size := (by omega); have hz1_2 : w.heap.size + 2 < w1.heap.size := (by omega)
    go_wp2_with fail
    refine (ca _).mono ?_; rintro e w3 ⟨rfl, hb3⟩
    obtain ⟨hk3, hf3, hz3⟩ := bcellN (n := w.heap.size + 3) (by (try simp only [World.size_drew, World.size_alloc, World.size_setCell]); omega) hb3; have hz3_0 : w.heap.size < w3.heap.size := (by omega); have hz3_1 : w.heap.size + 1 < w3.heap.size := (by omega); have hz3_2 : w.heap.size + 2 < w3.heap.size := (by omega)
    go_wp2
    refine bodyPost_ret (v := .tuple #[stV 0 0 0 0 0 0 0, .int .i64 E]) (by simp [results, Try.results12, go_sem, hk1, hz1_0, hz1_1, hz1_2, hk3, hz3_0, hz3_1, hz3_2]) rfl ⟨rfl, ?_⟩
    (repeat (first | (with_reducible exact Below.refl _ _) | ((with_reducible refine below_alloc ?_ ?_ _); · (first | omega | (simp; done) | (simp; omega))) | ((with_reducible refine below_setCell ?_ ?_ _); · (first | omega | (simp; done) | (simp; omega))) | (with_reducible refine Below.drew ?_) | (with_reducible refine below_drewN ?_ _) | ((with_reducible refine below_call (by assumption) ?_ ?_); · (first | omega | (simp; done) | (simp; omega)))))
end Go.Proofs.Ytkohdfmhigejoaa
