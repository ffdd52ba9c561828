/- Layer 13, the program's: numbers held between two; whether a bucket may be; as it is at a tick. -/
import Derived.Test.YtpmabkegjdjodaaB13C
import Derived.Lib.MinMax
namespace Go.Proofs.Ytpmabkegjdjodaa
open Go.RowKit
set_option linter.unusedVariables false
set_option linter.unusedSimpArgs false

@[go_sem] theorem field_b0 (x y : Value) (w : World) : (Instr.field 52 (.agg #[x, y]) 0).run Try.prog w = .ok x w := by kernel_rfl
@[go_sem] theorem field_b1 (x y : Value) (w : World) : (Instr.field 52 (.agg #[x, y]) 1).run Try.prog w = .ok y w := by kernel_rfl
theorem bhold_any (n a b : Int) (hab : a ≤ b) (w : World) : Calls Try.prog 49 #[.int .i64 n, .int .i64 a, .int .i64 b] w fun e w' => e = .returned (.int .i64 (hldN n a b)) ∧ w' = w := by
  go_enter Try.func49, Try.ntmps49
  go_wp2
  all_goals
    go_ret
    refine ⟨ret_int ?_, rfl⟩
    unfold hldN
    omega
theorem cnf_no {B R : Int} (h : ¬ ((1 ≤ B ∧ B ≤ 1000) ∧ (0 ≤ R ∧ R ≤ 1000))) : cnfE B R = 8 := by
  unfold cnfE
  exact if_neg (fun hc => h (cnf_iff.1 hc))
set_option maxHeartbeats 2000000 in
theorem bcheck_any (B R : Int) (w : World) : Calls Try.prog 43 #[twV B R] w fun e w' => e = .returned (.int .i64 (cnfE B R)) ∧ Below w.heap.size w w' := by
  simp only [twV]
  by_cases h1 : B < 1
  · have HE := Lib.hid (cnf_no (B := B) (R := R) (by omega))
    go_enter Try.func43, Try.ntmps43
    go_wp2
    go_ret
    exact ⟨ret_int HE.out.symm, by (repeat (first | (with_reducible exact Below.refl _ _) | ((with_reducible refine below_alloc ?_ ?_ _); · (first | omega | (simp; done) | (simp; omega))) | ((with_reducible refine below_setCell ?_ ?_ _); · (first | omega | (simp; done) | (simp; omega))) | (with_reducible refine Below.drew ?_) | (with_reducible refine below_drewN ?_ _) | ((with_reducible refine below_call (by assumption) ?_ ?_); · (first | omega | (simp; done) | (simp; omega)))))⟩
  · by_cases h2 : 1000 < B
    · have HE := Lib.hid (cnf_no (B := B) (R := R) (by omega))
      go_enter Try.func43, Try.ntmps43
      go_wp2
      go_ret
      exact ⟨ret_int HE.out.symm, by (repeat (first | (with_reducible exact Below.refl _ _) | ((with_reducible refine below_alloc ?_ ?_ _); · (first | omega | (simp; done) | (simp; omega))) | ((with_reducible refine below_setCell ?_ ?_ _); · (first | omega | (simp; done) | (simp; omega))) | (with_reducible refine Below.drew ?_) | (with_reducible refine below_drewN ?_ _) | ((with_reducible refine below_call (by assumption) ?_ ?_); · (first | omega | (simp; done) | (simp; omega)))))⟩
    · by_cases h3 : R < 0
      · have HE := Lib.hid (cnf_no (B := B) (R := R) (by omega))
        go_enter Try.func43, Try.ntmps43
        go_wp2
        go_ret
        exact ⟨ret_int HE.out.symm, by (repeat (first | (with_reducible exact Below.refl _ _) | ((with_reducible refine below_alloc ?_ ?_ _); · (first | omega | (simp; done) | (simp; omega))) | ((with_reducible refine below_setCell ?_ ?_ _); · (first | omega | (simp; done) | (simp; omega))) | (with_reducible refine Below.drew ?_) | (with_reducible refine below_drewN ?_ _) | ((with_reducible refine below_call (by assumption) ?_ ?_); · (first | omega | (simp; done) | (simp; omega)))))⟩
      · by_cases h4 : 1000 < R
        · have HE := Lib.hid (cnf_no (B := B) (R := R) (by omega))
          go_enter Try.func43, Try.ntmps43
          go_wp2
          go_ret
          exact ⟨ret_int HE.out.symm, by (repeat (first | (with_reducible exact Below.refl _ _) | ((with_reducible refine below_alloc ?_ ?_ _); · (first | omega | (simp; done) | (simp; omega))) | ((with_reducible refine below_setCell ?_ ?_ _); · (first | omega | (simp; done) | (simp; omega))) | (with_reducible refine Below.drew ?_) | (with_reducible refine below_drewN ?_ _) | ((with_reducible refine below_call (by assumption) ?_ ?_); · (first | omega | (simp; done) | (simp; omega)))))⟩
        · have HE : Hid (cnfE B R = 0) := Lib.hid (if_pos (cnf_iff.2 (by omega)))
          go_enter Try.func43, Try.ntmps43
          go_wp2
          go_ret
          exact ⟨ret_int HE.out.symm, by (repeat (first | (with_reducible exact Below.refl _ _) | ((with_reducible refine below_alloc ?_ ?_ _); · (first | omega | (simp; done) | (simp; omega))) | ((with_reducible refine below_setCell ?_ ?_ _); · (first | omega | (simp; done) | (simp; omega))) | (with_reducible refine Below.drew ?_) | (with_reducible refine below_drewN ?_ _) | ((with_reducible refine below_call (by assumption) ?_ ?_); · (first | omega | (simp; done) | (simp; omega)))))⟩
theorem fin_no {B R T A : Int} (h : ¬ ((0 ≤ T ∧ T ≤ B) ∧ 0 ≤ A ∧ A ≤ 1099511627776)) : finB B R T A = false := by
  cases hf : finB B R T A with
  | false => rfl
  | true => exact absurd (fin_iff.1 hf).2 h
set_option maxHeartbeats 2000000 in
theorem bfine_any (B R T A : Int) (w : World) : Calls Try.prog 42 #[twV B R, twV T A] w fun e w' => e = .returned (.bool (finB B R T A)) ∧ Below w.heap.size w w' := by
  have c0 := Lib.hid (fun W => bcheck_any B R W)
  have X0 : Hid (∀ t t', Bx2 ((w.alloc (.cells #[.int .i64 B, .int .i64 R] t)).alloc (.cells #[.int .i64 T, .int .i64 A] t')) w.heap.size B R ∧ Bx2 ((w.alloc (.cells #[.int .i64 B, .int .i64 R] t)).alloc (.cells #[.int .i64 T, .int .i64 A] t')) (w.heap.size + 1) T A) := Lib.hid (fun t t' => by simp [Bx2, go_sem])
  unfold cnfE at c0
  simp only [twV] at *
  cases hc : cnfB B R with
  | false =>
    have HE2 : Hid (finB B R T A = false) := Lib.hid (by unfold finB; rw [hc]; rfl)
    rw [hc] at c0
    simp only [Bool.false_eq_true, if_false] at c0
    clear hc
    go_enter Try.func42, Try.ntmps42
    go_wp2_with fail
    refine (c0.out _).mono ?_; rintro e w1 ⟨rfl, hb1⟩
    obtain ⟨⟨x0, x1⟩, ⟨y0, y1⟩⟩ := (X0.out _ _).imp (fun h => h.call hb1) (fun h => h.call hb1)
    go_wp2
    go_ret
    exact ⟨ret_bool HE2.out.symm, by (repeat (first | (with_reducible exact Below.refl _ _) | ((with_reducible refine below_alloc ?_ ?_ _); · (first | omega | (simp; done) | (simp; omega))) | ((with_reducible refine below_setCell ?_ ?_ _); · (first | omega | (simp; done) | (simp; omega))) | (with_reducible refine Below.drew ?_) | (with_reducible refine below_drewN ?_ _) | ((with_reducible refine below_call (by assumption) ?_ ?_); · (first | omega | (simp; done) | (simp; omega)))))⟩
  | true =>
    rw [hc] at c0
    simp only [if_true] at c0
    by_cases h1 : 0 ≤ T
    · by_cases h2 : T ≤ B
      · by_cases h3 : 0 ≤ A
        · by_cases h4 : A ≤ 1099511627776
          · have HE2 : Hid (finB B R T A = true) := Lib.hid (fin_iff.2 ⟨cnf_iff.1 hc, ⟨h1, h2⟩, h3, h4⟩)
            clear hc
            go_enter Try.func42, Try.ntmps42
            go_wp2_with fail
            refine (c0.out _).mono ?_; rintro e w1 ⟨rfl, hb1⟩
            obtain ⟨⟨x0, x1⟩, ⟨y0, y1⟩⟩ := (X0.out _ _).imp (fun h => h.call hb1) (fun h => h.call hb1)
            go_wp2
            go_ret
            exact ⟨ret_bool HE2.out.symm, by (repeat (first | (with_reducible exact Below.refl _ _) | ((with_reducible refine below_alloc ?_ ?_ _); · (first | omega | (simp; done) | (simp; omega))) | ((with_reducible refine below_setCell ?_ ?_ _); · (first | omega | (simp; done) | (simp; omega))) | (with_reducible refine Below.drew ?_) | (with_reducible refine below_drewN ?_ _) | ((with_reducible refine below_call (by assumption) ?_ ?_); · (first | omega | (simp; done) | (simp; omega)))))⟩
          · have HE2 := Lib.hid (fin_no (B := B) (R := R) (T := T) (A := A) (by omega))
            clear hc
            go_enter Try.func42, Try.ntmps42
            go_wp2_with fail
            refine (c0.out _).mono ?_; rintro e w1 ⟨rfl, hb1⟩
            obtain ⟨⟨x0, x1⟩, ⟨y0, y1⟩⟩ := (X0.out _ _).imp (fun h => h.call hb1) (fun h => h.call hb1)
            go_wp2
            go_ret
            exact ⟨by first | exact ret_bool HE2.out.symm | exact ret_bool ((decide_eq_false (Int.not_le.2 h4)).trans HE2.out.symm), by (repeat (first | (with_reducible exact Below.refl _ _) | ((with_reducible refine below_alloc ?_ ?_ _); · (first | omega | (simp; done) | (simp; omega))) | ((with_reducible refine below_setCell ?_ ?_ _); · (first | omega | (simp; done) | (simp; omega))) | (with_reducible refine Below.drew ?_) | (with_reducible refine below_drewN ?_ _) | ((with_reducible refine below_call (by assumption) ?_ ?_); · (first | omega | (simp; done) | (simp; omega)))))⟩
        · have HE2 := Lib.hid (fin_no (B := B) (R := R) (T := T) (A := A) (by omega))
          clear hc
          go_enter Try.func42, Try.ntmps42
          go_wp2_with fail
          refine (c0.out _).mono ?_; rintro e w1 ⟨rfl, hb1⟩
          obtain ⟨⟨x0, x1⟩, ⟨y0, y1⟩⟩ := (X0.out _ _).imp (fun h => h.call hb1) (fun h => h.call hb1)
          go_wp2
          go_ret
          exact ⟨ret_bool HE2.out.symm, by (repeat (first | (with_reducible exact Below.refl _ _) | ((with_reducible refine below_alloc ?_ ?_ _); · (first | omega | (simp; done) | (simp; omega))) | ((with_reducible refine below_setCell ?_ ?_ _); · (first | omega | (simp; done) | (simp; omega))) | (with_reducible refine Below.drew ?_) | (with_reducible refine below_drewN ?_ _) | ((with_reducible refine below_call (by assumption) ?_ ?_); · (first | omega | (simp; done) | (simp; omega)))))⟩
      · have HE2 := Lib.hid (fin_no (B := B) (R := R) (T := T) (A := A) (by omega))
        clear hc
        go_enter Try.func42, Try.ntmps42
        go_wp2_with fail
        refine (c0.out _).mono ?_; rintro e w1 ⟨rfl, hb1⟩
        obtain ⟨⟨x0, x1⟩, ⟨y0, y1⟩⟩ := (X0.out _ _).imp (fun h => h.call hb1) (fun h => h.call hb1)
        go_wp2
        go_ret
        exact ⟨ret_bool HE2.out.symm, by (repeat (first | (with_reducible exact Below.refl _ _) | ((with_reducible refine below_alloc ?_ ?_ _); · (first | omega | (simp; done) | (simp; omega))) | ((with_reducible refine below_setCell ?_ ?_ _); · (first | omega | (simp; done) | (simp; omega))) | (with_reducible refine Below.drew ?_) | (with_reducible refine below_drewN ?_ _) | ((with_reducible refine below_call (by assumption) ?_ ?_); · (first | omega | (simp; done) | (simp; omega)))))⟩
    · have HE2 := Lib.hid (fin_no (B := B) (R := R) (T := T) (A := A) (by omega))
      clear hc
      go_enter Try.func42, Try.ntmps42
      go_wp2_with fail
      refine (c0.out _).mono ?_; rintro e w1 ⟨rfl, hb1⟩
      obtain ⟨⟨x0, x1⟩, ⟨y0, y1⟩⟩ := (X0.out _ _).imp (fun h => h.call hb1) (fun h => h.call hb1)
      go_wp2
      go_ret
      exact ⟨ret_bool HE2.out.symm, by (repeat (first | (with_reducible exact Below.refl _ _) | ((with_reducible refine below_alloc ?_ ?_ _); · (first | omega | (simp; done) | (simp; omega))) | ((with_reducible refine below_setCell ?_ ?_ _); · (first | omega | (simp; done) | (simp; omega))) | (with_reducible refine Below.drew ?_) | (with_reducible refine below_drewN ?_ _) | ((with_reducible refine below_call (by assumption) ?_ ?_); · (first | omega | (simp; done) | (simp; omega)))))⟩
set_option maxHeartbeats 2000000 in
theorem bfull_any (B R now : Int) (w : World) : Calls Try.prog 24 #[twV B R, .int .i64 now] w fun e w' => e = .returned (twV B (hldN now 0 1099511627776)) ∧ Below w.heap.size w w' := by
  have c := Lib.hid (fun W => bhold_any now 0 1099511627776 (by decide) W)
  simp only [twV] at *
  generalize hldN now 0 1099511627776 = h at c ⊢
  go_enter Try.func24, Try.ntmps24
  go_wp2_with fail
  refine wp_region_held_drew (S := fun w' => w'.cell? ⟨w.heap.size, 0, none⟩ = some (.int .i64 B)) (by kernel_rfl) (by simp [go_sem]) (fun hHeld => ?_)
  (refine wpAnyH_take (i := 0) (v := ?_) rfl (by kernel_rfl) (by kernel_rfl) (by kernel_rfl) (fun _ _ _ h => h) (Or.inl ⟨by rfl, ?_⟩) (by assumption) ?_; rotate_left 1; (focus (intro wz hz; (try dsimp only at hz); (try simp only [List.getElem_toArray, List.getElem_cons_succ, List.getElem_cons_zero]); go_simp; (try (rw [if_neg (by (try simp only [ByteArray.size_append]); omega)])); try (with_reducible rfl); done)))
  try simp only [Act.put, List.getElem_toArray, List.getElem_cons_succ, List.getElem_cons_zero, List.setIfInBounds_toArray, List.set_cons_zero, List.set_cons_succ]
  (refine wpAnyH_take (i := 2) (v := ?_) rfl (by kernel_rfl) (by kernel_rfl) (by kernel_rfl) (fun _ _ _ h => h) (Or.inl ⟨by rfl, ?_⟩) (by assumption) ?_; rotate_left 1; (focus (intro wz hz; (try dsimp only at hz); (try simp only [List.getElem_toArray, List.getElem_cons_succ, List.getElem_cons_zero]); go_simp; (try (rw [if_neg (by (try simp only [ByteArray.size_append]); omega)])); try (with_reducible rfl); done)))
  try simp only [Act.put, List.getElem_toArray, List.getElem_cons_succ, List.getElem_cons_zero, List.setIfInBounds_toArray, List.set_cons_zero, List.set_cons_succ]
  (refine wpAnyH_take (i := 1) (v := ?_) rfl (by kernel_rfl) (by kernel_rfl) (by kernel_rfl) (fun _ _ _ h => h) (Or.inl ⟨by rfl, ?_⟩) (by assumption) ?_; rotate_left 1; (focus (intro wz hz; (try dsimp only at hz); (try simp only [List.getElem_toArray, List.getElem_cons_succ, List.getElem_cons_zero]); go_simp; (try (rw [if_neg (by (try simp only [ByteArray.size_append]); omega)])); try (with_reducible rfl); done)))
  try simp only [Act.put, List.getElem_toArray, List.getElem_cons_succ, List.getElem_cons_zero, List.setIfInBounds_toArray, List.set_cons_zero, List.set_cons_succ]
  (refine wpAnyH_ready (rs := [3]) (by kernel_rfl) (by simp) ?_; refine AllReadyH.cons rfl (fun K hK => ?_) AllReadyH.nil; (try simp only [List.getElem_toArray, List.getElem_cons_succ, List.getElem_cons_zero]); go_simp; go_at_call 49; refine (c.out _).mono ?_; rintro e wn3 ⟨rfl, rfl⟩; (try (go_wp2_with fail)); refine hK.out _ _ (by simp [go_sem]) (fun hHeld => ?_); clear hK K)
  try simp only [Act.put, List.getElem_toArray, List.getElem_cons_succ, List.getElem_cons_zero, List.setIfInBounds_toArray, List.set_cons_zero, List.set_cons_succ]
  (refine wpAnyH_take (i := 4) (v := ?_) rfl (by kernel_rfl) (by kernel_rfl) (by kernel_rfl) (fun _ _ _ h => h) (Or.inl ⟨by rfl, ?_⟩) (by assumption) ?_; rotate_left 1; (focus (intro wz hz; (try dsimp only at hz); (try simp only [List.getElem_toArray, List.getElem_cons_succ, List.getElem_cons_zero]); go_simp; (try (rw [if_neg (by (try simp only [ByteArray.size_append]); omega)])); try (with_reducible rfl); done)))
  try simp only [Act.put, List.getElem_toArray, List.getElem_cons_succ, List.getElem_cons_zero, List.setIfInBounds_toArray, List.set_cons_zero, List.set_cons_succ]
  (refine wpAnyH_ready (rs := [5]) (by kernel_rfl) (by simp) ?_; refine AllReadyH.cons rfl (fun K hK => ?_) AllReadyH.nil; (try simp only [List.getElem_toArray, List.getElem_cons_succ, List.getElem_cons_zero]); skip; go_simp; refine hK.out _ _ (by simp [go_sem]) (fun hHeld => ?_); clear hK K)
  try simp only [Act.put, List.getElem_toArray, List.getElem_cons_succ, List.getElem_cons_zero, List.setIfInBounds_toArray, List.set_cons_zero, List.set_cons_succ]
  refine wpAnyH_done (by kernel_rfl) ?_ _
  go_wp2
  refine bodyPost_ret (v := .agg #[.int .i64 B, .int .i64 h]) (by simp [results, Try.results24, go_sem]) rfl ⟨rfl, ?_⟩
  (repeat (first | (with_reducible exact Below.refl _ _) | ((with_reducible refine below_alloc ?_ ?_ _); · (first | omega | (simp; done) | (simp; omega))) | ((with_reducible refine below_setCell ?_ ?_ _); · (first | omega | (simp; done) | (simp; omega))) | (with_reducible refine Below.drew ?_) | (with_reducible refine below_drewN ?_ _) | ((with_reducible refine below_call (by assumption) ?_ ?_); · (first | omega | (simp; done) | (simp; omega)))))
set_option maxRecDepth 100000 in
set_option maxHeartbeats 2000000 in
/-- a bucket that is fine, as it is at a tick -/
theorem blater_any (B R T A now : Int) (hf : finB B R T A = true) (w : World) : Calls Try.prog 50 #[twV B R, twV T A, .int .i64 now] w fun e w' => e = .returned (twV (lvlN B R T A now) (hldN now A 1099511627776)) ∧ Below w.heap.size w w' := by
  have c1 := Lib.hid (fun W => bhold_any now A 1099511627776 (fin_iff.1 hf).2.2.2 W)
  have HL : Hid (lvlN B R T A now = min B (T + R * (hldN now A 1099511627776 - A))) := Lib.hid (if_pos hf)
  obtain ⟨s1, s2, s3⟩ := lvl_steps hf now
  rw [HL.out]
  simp only [twV] at *
  generalize hldN now A 1099511627776 = h at c1 s1 s2 s3 ⊢
  clear hf HL
  go_enter Try.func50, Try.ntmps50
  go_wp2_with fail
  refine (c1.out _).mono ?_; rintro e w1 ⟨rfl, rfl⟩
  go_wp2
  refine bodyPost_ret (v := .agg #[.int .i64 (min B (T + R * (h - A))), .int .i64 h]) (by simp [results, Try.results50, go_sem]) rfl ⟨rfl, ?_⟩
  (repeat (first | (with_reducible exact Below.refl _ _) | ((with_reducible refine below_alloc ?_ ?_ _); · (first | omega | (simp; done) | (simp; omega))) | ((with_reducible refine below_setCell ?_ ?_ _); · (first | omega | (simp; done) | (simp; omega))) | (with_reducible refine Below.drew ?_) | (with_reducible refine below_drewN ?_ _) | ((with_reducible refine below_call (by assumption) ?_ ?_); · (first | omega | (simp; done) | (simp; omega)))))
end Go.Proofs.Ytpmabkegjdjodaa
