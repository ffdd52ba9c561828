/- Layer 14: awake: what every right program takes of some sources. -/
import Derived.Test.YtpmabkegjdjodaaS14S
import Derived.Test.YtpmabkegjdjodaaSameI
import Derived.Test.YtpmabkegjdjodaaKitE
namespace Go.Proofs.Ytpmabkegjdjodaa
open Go.RowKit
set_option linter.unusedVariables false
set_option linter.unusedSimpArgs false

theorem ka_a (v : Value) (w : World) (h : IsR 3 enC w v ([] : List En)) : Calls Try.prog 8 #[.agg #[.int .i64 1, .int .i64 1], v, .int .i64 5, .int .i64 0] w fun e w' => ∃ v', e = .returned (.tuple #[v', .int .i64 0]) ∧ IsR 3 enC w' v' ([(5, 0, 0)] : List En) ∧ Below w.heap.size w w' := by
  have h := pstake_any 1 1 v ([] : List En) 5 0 w h (by decide)
  unfold twV at h
  rw [show tkE14 1 1 ([] : List En) 5 0 = 0 from by decide +kernel, show tkS14 1 1 ([] : List En) 5 0 = ([(5, 0, 0)] : List En) from by decide +kernel] at h
  exact h
theorem ka_b (v : Value) (w : World) (h : IsR 3 enC w v ([(5, 0, 0)] : List En)) : Calls Try.prog 8 #[.agg #[.int .i64 1, .int .i64 1], v, .int .i64 5, .int .i64 0] w fun e w' => ∃ v', e = .returned (.tuple #[v', .int .i64 14]) ∧ IsR 3 enC w' v' ([(5, 0, 0)] : List En) ∧ Below w.heap.size w w' := by
  have h := pstake_any 1 1 v ([(5, 0, 0)] : List En) 5 0 w h (by decide)
  unfold twV at h
  rw [show tkE14 1 1 ([(5, 0, 0)] : List En) 5 0 = 14 from by decide +kernel, show tkS14 1 1 ([(5, 0, 0)] : List En) 5 0 = ([(5, 0, 0)] : List En) from by decide +kernel] at h
  exact h
theorem ka_d (v : Value) (w : World) (h : IsR 3 enC w v ([(5, 0, 0)] : List En)) : Calls Try.prog 8 #[.agg #[.int .i64 1, .int .i64 1], v, .int .i64 3, .int .i64 0] w fun e w' => ∃ v', e = .returned (.tuple #[v', .int .i64 0]) ∧ IsR 3 enC w' v' ([(3, 0, 0), (5, 0, 0)] : List En) ∧ Below w.heap.size w w' := by
  have h := pstake_any 1 1 v ([(5, 0, 0)] : List En) 3 0 w h (by decide)
  unfold twV at h
  rw [show tkE14 1 1 ([(5, 0, 0)] : List En) 3 0 = 0 from by decide +kernel, show tkS14 1 1 ([(5, 0, 0)] : List En) 3 0 = ([(3, 0, 0), (5, 0, 0)] : List En) from by decide +kernel] at h
  exact h
theorem ka_n (v : Value) (w : World) (h : IsR 3 enC w v ([(3, 0, 0), (5, 0, 0)] : List En)) : Calls Try.prog 8 #[.agg #[.int .i64 1, .int .i64 1], v, .int .i64 (-1), .int .i64 0] w fun e w' => ∃ v', e = .returned (.tuple #[v', .int .i64 2]) ∧ IsR 3 enC w' v' ([(3, 0, 0), (5, 0, 0)] : List En) ∧ Below w.heap.size w w' := by
  have h := pstake_any 1 1 v ([(3, 0, 0), (5, 0, 0)] : List En) (-1) 0 w h (by decide)
  unfold twV at h
  rw [show tkE14 1 1 ([(3, 0, 0), (5, 0, 0)] : List En) (-1) 0 = 2 from by decide +kernel, show tkS14 1 1 ([(3, 0, 0), (5, 0, 0)] : List En) (-1) 0 = ([(3, 0, 0), (5, 0, 0)] : List En) from by decide +kernel] at h
  exact h
theorem ka_x (v : Value) (w : World) (h : IsR 3 enC w v ([(3, 0, 0), (5, 0, 0)] : List En)) : Calls Try.prog 16 #[.agg #[.int .i64 1, .int .i64 1], v, .int .i64 1] w fun e w' => ∃ v', e = .returned v' ∧ IsR 3 enC w' v' ([] : List En) ∧ Below w.heap.size w w' := by
  have h := psclean_any 1 1 v ([(3, 0, 0), (5, 0, 0)] : List En) 1 w h (by decide)
  unfold twV at h
  rw [show clnS 1 1 ([(3, 0, 0), (5, 0, 0)] : List En) 1 = [] from by decide +kernel] at h
  exact h
theorem ka_l5 (v : Value) (w : World) (h : IsR 3 enC w v ([(3, 0, 0), (5, 0, 0)] : List En)) : Calls Try.prog 12 #[.agg #[.int .i64 1, .int .i64 1], v, .int .i64 5, .int .i64 0] w fun e w' => e = .returned (.int .i64 0) ∧ Below w.heap.size w w' := by
  have h := pslevel_any 1 1 v ([(3, 0, 0), (5, 0, 0)] : List En) 5 0 w h (by decide)
  unfold twV at h
  rw [show lvS14 1 1 ([(3, 0, 0), (5, 0, 0)] : List En) 5 0 = 0 from by decide +kernel] at h
  exact h
theorem ka_l7 (v : Value) (w : World) (h : IsR 3 enC w v ([(3, 0, 0), (5, 0, 0)] : List En)) : Calls Try.prog 12 #[.agg #[.int .i64 1, .int .i64 1], v, .int .i64 7, .int .i64 0] w fun e w' => e = .returned (.int .i64 1) ∧ Below w.heap.size w w' := by
  have h := pslevel_any 1 1 v ([(3, 0, 0), (5, 0, 0)] : List En) 7 0 w h (by decide)
  unfold twV at h
  rw [show lvS14 1 1 ([(3, 0, 0), (5, 0, 0)] : List En) 7 0 = 1 from by decide +kernel] at h
  exact h
theorem ka_w5 (v : Value) (w : World) (h : IsR 3 enC w v ([(3, 0, 0), (5, 0, 0)] : List En)) : Calls Try.prog 14 #[.agg #[.int .i64 1, .int .i64 1], v, .int .i64 5, .int .i64 0] w fun e w' => e = .returned (.int .i64 1) ∧ Below w.heap.size w w' := by
  have h := pswait_any 1 1 v ([(3, 0, 0), (5, 0, 0)] : List En) 5 0 w h (by decide)
  unfold twV at h
  rw [show wtS14 1 1 ([(3, 0, 0), (5, 0, 0)] : List En) 5 0 = 1 from by decide +kernel] at h
  exact h
theorem ka_c0 (v : Value) (w : World) (h : IsR 3 enC w v ([(3, 0, 0), (5, 0, 0)] : List En)) : Calls Try.prog 18 #[.agg #[.int .i64 1, .int .i64 1], v] w fun e w' => e = .returned (.int .i64 0) ∧ Below w.heap.size w w' := by
  have h := pscheck_any 1 1 v ([(3, 0, 0), (5, 0, 0)] : List En) w h (by decide)
  unfold twV at h
  rw [show chkS14 1 1 ([(3, 0, 0), (5, 0, 0)] : List En) = 0 from by decide +kernel] at h
  exact h
theorem ka_c8 (v : Value) (w : World) (h : IsR 3 enC w v ([(-1, 0, 0)] : List En)) : Calls Try.prog 18 #[.agg #[.int .i64 1, .int .i64 1], v] w fun e w' => e = .returned (.int .i64 8) ∧ Below w.heap.size w w' := by
  have h := pscheck_any 1 1 v ([(-1, 0, 0)] : List En) w h (by decide)
  unfold twV at h
  rw [show chkS14 1 1 ([(-1, 0, 0)] : List En) = 8 from by decide +kernel] at h
  exact h
theorem ka_s (v : Value) (w : World) (h : IsR 3 enC w v ([(3, 0, 0), (5, 0, 0)] : List En)) : Calls Try.prog 21 #[v] w fun e w' => ∃ v', e = .returned v' ∧ IsI w' v' [3, 5] ∧ Below w.heap.size w w' := pssources_any v ([(3, 0, 0), (5, 0, 0)] : List En) w h (by decide)
theorem ka_s1 (v u : Value) (w : World) (h : IsR 3 enC w v ([(5, 0, 0)] : List En)) (h2 : IsR 3 enC w u ([(5, 0, 0)] : List En)) : Calls Try.prog 23 #[v, u] w fun e w' => e = .returned (.bool true) ∧ Below w.heap.size w w' := pssame_any v u ([(5, 0, 0)] : List En) ([(5, 0, 0)] : List En) w h h2 (by decide) (by decide)
theorem ka_s0 (v u : Value) (w : World) (h : IsR 3 enC w v ([(5, 0, 0)] : List En)) (h2 : IsR 3 enC w u ([(3, 0, 0), (5, 0, 0)] : List En)) : Calls Try.prog 23 #[v, u] w fun e w' => e = .returned (.bool false) ∧ Below w.heap.size w w' := pssame_any v u ([(5, 0, 0)] : List En) ([(3, 0, 0), (5, 0, 0)] : List En) w h h2 (by decide) (by decide)
theorem isI_two {w : World} {b : Nat} {x y : Int} (h : w.cell? ⟨b, 0, none⟩ = some (.int .i64 x) ∧ w.cell? ⟨b, 1, none⟩ = some (.int .i64 y)) : IsI w (.slice (some ⟨b, 0, none⟩) 2 2) [x, y] :=
  ⟨_, 2, rfl, fun j hj => ⟨b, 0, rfl, by
    match j, hj with
    | 0, _ => exact h.1
    | 1, _ => exact h.2⟩⟩
set_option maxRecDepth 100000 in
set_option maxHeartbeats 8000000 in
theorem awake_any (w : World) : Calls Try.prog 6 #[] w fun e w' => e = .returned (.bool true) ∧ Below w.heap.size w w' := by
  have X0 : Hid (∀ t, Bx2 (w.alloc (.cells #[.int .i64 1, .int .i64 1] t)) w.heap.size 1 1) := Lib.hid (fun t => by simp [Bx2, go_sem])
  go_enter Try.func6, Try.ntmps6
  go_wp2_with fail
  refine (ka_a _ _ (IsR.nil 3 enC _)).mono ?_; rintro e w1 ⟨v1, rfl, I1, hb1⟩
  have X1 : Bx2 w1 w.heap.size 1 1 := Bx2.call (by simp [Bx2, go_sem]) hb1
  have B1 : Below w.heap.size w w1 := by (repeat (first | (with_reducible exact Below.refl _ _) | ((with_reducible refine below_alloc ?_ ?_ _); · (first | omega | (simp; done) | (simp; omega))) | ((with_reducible refine below_setCell ?_ ?_ _); · (first | omega | (simp; done) | (simp; omega))) | (with_reducible refine Below.drew ?_) | (with_reducible refine below_drewN ?_ _) | ((with_reducible refine below_call (by assumption) ?_ ?_); · (first | omega | (simp; done) | (simp; omega)))))
  obtain ⟨p1, c1, e1⟩ : ∃ p c, v1 = .slice p 1 c := by obtain ⟨p, c, h, _⟩ := I1; exact ⟨p, c, h⟩
  subst e1
  obtain ⟨x0, x1⟩ := id X1
  go_wp2_with fail
  refine (ka_b _ _ I1).mono ?_; rintro e w2 ⟨v2, rfl, I2, hb2⟩
  have X2 := X1.call hb2
  have B2 := B1.trans (hb2.mono B1.size)
  have J1 := I1.call hb2
  clear x0 x1 X1 B1 I1
  obtain ⟨p2, c2, e2⟩ : ∃ p c, v2 = .slice p 1 c := by obtain ⟨p, c, h, _⟩ := I2; exact ⟨p, c, h⟩
  subst e2
  obtain ⟨x0, x1⟩ := id X2
  go_wp2_with fail
  refine (ka_d _ _ I2).mono ?_; rintro e w3 ⟨v3, rfl, I3, hb3⟩
  have X3 := X2.call hb3
  have B3 := B2.trans (hb3.mono B2.size)
  have K1 := J1.call hb3
  have J2 := I2.call hb3
  clear x0 x1 X2 B2 I2 J1
  obtain ⟨p3, c3, e3⟩ : ∃ p c, v3 = .slice p 2 c := by obtain ⟨p, c, h, _⟩ := I3; exact ⟨p, c, h⟩
  subst e3
  obtain ⟨x0, x1⟩ := id X3
  go_wp2_with fail
  refine (ka_x _ _ I3).mono ?_; rintro e w4 ⟨v4, rfl, I4, hb4⟩
  have X4 := X3.call hb4
  have B4 := B3.trans (hb4.mono B3.size)
  have S4 : Below w3.heap.size w3 w4 := hb4
  clear x0 x1 X3
  obtain ⟨p4, c4, e4⟩ : ∃ p c, v4 = .slice p 0 c := by obtain ⟨p, c, h, _⟩ := I4; exact ⟨p, c, h⟩
  subst e4
  obtain ⟨x0, x1⟩ := id X4
  go_wp2_with fail
  refine (ka_n _ _ (I3.call S4)).mono ?_; rintro e w5 ⟨v5, rfl, I5, hb5⟩
  have X5 := X4.call hb5
  have B5 := B4.trans (hb5.mono B4.size)
  have S5 : Below w3.heap.size w3 w5 := S4.trans (hb5.mono S4.size)
  clear x0 x1 X4
  have hA := Lib.hid (fun W (hb : Below w3.heap.size w3 W) => And.intro (K1.call hb) (And.intro (J2.call hb) (I3.call hb)))
  have hX := Lib.hid (fun W (hb : Below w5.heap.size w5 W) => X5.call hb)
  clear K1 J2 I3 I4 I5
  obtain ⟨x0, x1⟩ := id X5
  have z5 := S5.size
  go_wp2_with fail
  refine (ka_s1 _ _ _ (hA.out _ S5).1 (hA.out _ S5).2.1).mono ?_; rintro e y1 ⟨rfl, hc1⟩
  have D1 : Below w5.heap.size w5 y1 := hc1
  obtain ⟨x0, x1⟩ := hX.out _ D1
  go_wp2_with fail
  refine (ka_s _ _ (hA.out _ (S5.trans (D1.mono z5))).2.2).mono ?_; rintro e y2 ⟨u2, rfl, M2, hc2⟩
  have D2 : Below w5.heap.size w5 y2 := D1.trans (hc2.mono D1.size)
  obtain ⟨x0, x1⟩ := hX.out _ D2
  have zz2 := D2.size
  go_wp2_with fail
  refine (sameInts_any _ _ [3, 5] [3, 5] _ (M2.call (show Below y2.heap.size y2 _ by (repeat (first | (with_reducible exact Below.refl _ _) | ((with_reducible refine below_alloc ?_ ?_ _); · (first | omega | (simp; done) | (simp; omega))) | ((with_reducible refine below_setCell ?_ ?_ _); · (first | omega | (simp; done) | (simp; omega))) | (with_reducible refine Below.drew ?_) | (with_reducible refine below_drewN ?_ _) | ((with_reducible refine below_call (by assumption) ?_ ?_); · (first | omega | (simp; done) | (simp; omega))))))) (isI_two (by simp [go_sem])) (by decide)).mono ?_; rintro e y3 ⟨rfl, hc3⟩
  rw [show sameIB [3, 5] [3, 5] = true from by decide]
  have D3 : Below w5.heap.size w5 y3 := below_call hc3 (by simp; omega) (by (repeat (first | (with_reducible exact Below.refl _ _) | ((with_reducible refine below_alloc ?_ ?_ _); · (first | omega | (simp; done) | (simp; omega))) | ((with_reducible refine below_setCell ?_ ?_ _); · (first | omega | (simp; done) | (simp; omega))) | (with_reducible refine Below.drew ?_) | (with_reducible refine below_drewN ?_ _) | ((with_reducible refine below_call (by assumption) ?_ ?_); · (first | omega | (simp; done) | (simp; omega))))))
  obtain ⟨x0, x1⟩ := hX.out _ D3
  go_wp2_with fail
  refine (ka_l5 _ _ (hA.out _ (S5.trans (D3.mono z5))).2.2).mono ?_; rintro e y4 ⟨rfl, hc4⟩
  have D4 : Below w5.heap.size w5 y4 := D3.trans (hc4.mono D3.size)
  obtain ⟨x0, x1⟩ := hX.out _ D4
  go_wp2_with fail
  refine (ka_l7 _ _ (hA.out _ (S5.trans (D4.mono z5))).2.2).mono ?_; rintro e y5 ⟨rfl, hc5⟩
  have D5 : Below w5.heap.size w5 y5 := D4.trans (hc5.mono D4.size)
  obtain ⟨x0, x1⟩ := hX.out _ D5
  go_wp2_with fail
  refine (ka_w5 _ _ (hA.out _ (S5.trans (D5.mono z5))).2.2).mono ?_; rintro e y6 ⟨rfl, hc6⟩
  have D6 : Below w5.heap.size w5 y6 := D5.trans (hc6.mono D5.size)
  obtain ⟨x0, x1⟩ := hX.out _ D6
  go_wp2_with fail
  refine (ka_c0 _ _ (hA.out _ (S5.trans (D6.mono z5))).2.2).mono ?_; rintro e y7 ⟨rfl, hc7⟩
  have D7 : Below w5.heap.size w5 y7 := D6.trans (hc7.mono D6.size)
  obtain ⟨x0, x1⟩ := hX.out _ D7
  have z7 := D7.size
  go_wp2_with fail
  refine (ka_c8 _ _ (isR_one y7 ((-1, 0, 0) : En) _ 1 rfl rfl)).mono ?_; rintro e y8 ⟨rfl, hc8⟩
  have D8 : Below w5.heap.size w5 y8 := below_call hc8 (by simp; omega) (by (repeat (first | (with_reducible exact Below.refl _ _) | ((with_reducible refine below_alloc ?_ ?_ _); · (first | omega | (simp; done) | (simp; omega))) | ((with_reducible refine below_setCell ?_ ?_ _); · (first | omega | (simp; done) | (simp; omega))) | (with_reducible refine Below.drew ?_) | (with_reducible refine below_drewN ?_ _) | ((with_reducible refine below_call (by assumption) ?_ ?_); · (first | omega | (simp; done) | (simp; omega))))))
  go_wp2_with fail
  refine (ka_s0 _ _ _ (hA.out _ (S5.trans (D8.mono z5))).1 (hA.out _ (S5.trans (D8.mono z5))).2.2).mono ?_; rintro e y9 ⟨rfl, hc9⟩
  have D9 : Below w5.heap.size w5 y9 := D8.trans (hc9.mono D8.size)
  go_wp2
  go_ret
  exact ⟨rfl, B5.trans (D9.mono B5.size)⟩
end Go.Proofs.Ytpmabkegjdjodaa
