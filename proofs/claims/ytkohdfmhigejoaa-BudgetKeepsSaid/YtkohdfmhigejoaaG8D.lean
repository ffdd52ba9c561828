/- Layer 8: how many cells are charged, and left, and how full a state is; a new one: of both. -/
import Derived.Test.YtkohdfmhigejoaaG8C
namespace Go.Proofs.Ytkohdfmhigejoaa
open Go.RowKit
set_option linter.unusedVariables false
set_option linter.unusedSimpArgs false

theorem Bx7.new (w : World) (t : TypeId) (c a0 a1 a2 a3 a4 a5 : Int) : Bx7 (w.alloc (.cells #[.int .i64 c, .int .i64 a0, .int .i64 a1, .int .i64 a2, .int .i64 a3, .int .i64 a4, .int .i64 a5] t)) w.heap.size c a0 a1 a2 a3 a4 a5 := by
  simp [Bx7, go_sem]
theorem sumN_nonneg {M a0 a1 a2 a3 a4 a5 : Int} (h : Smal M a0 a1 a2 a3 a4 a5) : 0 ≤ sumN a0 a1 a2 a3 a4 a5 := by
  unfold Smal at h
  unfold sumN
  omega
theorem chk0 {c a0 a1 a2 a3 a4 a5 : Int} (h : chkN c a0 a1 a2 a3 a4 a5 = 0) : Smal 4096 a0 a1 a2 a3 a4 a5 ∧ (1 ≤ c ∧ c ≤ 4096) ∧ 0 ≤ sumN a0 a1 a2 a3 a4 a5 ∧ sumN a0 a1 a2 a3 a4 a5 ≤ c := by
  unfold chkN at h
  split at h
  · rename_i hk
    rw [Bool.and_eq_true, okB_iff] at hk
    refine ⟨hk.2, inB_iff.1 hk.1, sumN_nonneg hk.2, ?_⟩
    split at h
    · cases h
    · omega
  · cases h
theorem chk_of {c a0 a1 a2 a3 a4 a5 : Int} (h1 : Smal 4096 a0 a1 a2 a3 a4 a5) (h2 : 1 ≤ c ∧ c ≤ 4096) (h3 : sumN a0 a1 a2 a3 a4 a5 ≤ c) : chkN c a0 a1 a2 a3 a4 a5 = 0 := by
  rw [chkN_ok (inB_iff.2 h2) h1, if_neg (by omega)]
/-- how many are charged, how many are left, how full of 100: of a state that may be -/
def totN (c a0 a1 a2 a3 a4 a5 : Int) : Int := if chkN c a0 a1 a2 a3 a4 a5 = 0 then sumN a0 a1 a2 a3 a4 a5 else 0
def leftN (c a0 a1 a2 a3 a4 a5 : Int) : Int := if chkN c a0 a1 a2 a3 a4 a5 = 0 then c - sumN a0 a1 a2 a3 a4 a5 else 0
def loadN (c a0 a1 a2 a3 a4 a5 : Int) : Int := if chkN c a0 a1 a2 a3 a4 a5 = 0 then Int.tdiv (sumN a0 a1 a2 a3 a4 a5 * 100) c else 0
set_option maxRecDepth 100000 in
set_option maxHeartbeats 4000000 in
theorem tot_any (c a0 a1 a2 a3 a4 a5 : Int) (w : World) :
    Calls Try.prog 20 #[stV c a0 a1 a2 a3 a4 a5] w fun e w' => e = .returned (.int .i64 (totN c a0 a1 a2 a3 a4 a5)) ∧ Below w.heap.size w w' := by
  have ck := fun W => check_any c a0 a1 a2 a3 a4 a5 W
  have ch := Lib.hid (fun W (hs : Smal 8192 a0 a1 a2 a3 a4 a5) => charged_any c a0 a1 a2 a3 a4 a5 W hs)
  have X0 := Bx7.new w 26 c a0 a1 a2 a3 a4 a5
  simp only [stV] at *
  by_cases h : chkN c a0 a1 a2 a3 a4 a5 = 0
  · obtain ⟨hs, hc, hq0, hq1⟩ := chk0 h
    have hs' := Lib.hid hs.wide
    have HN : Hid (totN c a0 a1 a2 a3 a4 a5 = sumN a0 a1 a2 a3 a4 a5) := Lib.hid (by unfold totN; rw [if_pos h])
    rw [h] at ck
    have X0' := Lib.hid X0
    clear X0 h hs
    go_enter Try.func20, Try.ntmps20
    go_wp2_with fail
    refine (ck _).mono ?_; rintro e w1 ⟨rfl, hb1⟩
    obtain ⟨hk1, hf1, hz1⟩ := bcellN (n := w.heap.size + 1) (by (try simp only [World.size_drew, World.size_alloc, World.size_setCell]); omega) hb1; have hz1_0 : w.heap.size < w1.heap.size := (by omega)
    go_wp2_with fail
    refine (ch.out _ hs'.out).mono ?_; rintro e w2 ⟨rfl, hb2⟩
    go_wp2_with fail
    go_ret
    exact ⟨ret_int HN.out.symm, by (repeat (first | (with_reducible exact Below.refl _ _) | ((with_reducible refine below_alloc ?_ ?_ _); · (first | omega | (simp; done) | (simp; omega))) | ((with_reducible refine below_setCell ?_ ?_ _); · (first | omega | (simp; done) | (simp; omega))) | (with_reducible refine Below.drew ?_) | (with_reducible refine below_drewN ?_ _) | ((with_reducible refine below_call (by assumption) ?_ ?_); · (first | omega | (simp; done) | (simp; omega)))))⟩
  · have HN : Hid (totN c a0 a1 a2 a3 a4 a5 = 0) := Lib.hid (by unfold totN; rw [if_neg h])
    clear X0
    obtain ⟨E, hE⟩ : ∃ E, chkN c a0 a1 a2 a3 a4 a5 = E := ⟨_, rfl⟩
    rw [hE] at ck h
    clear hE
    go_enter Try.func20, Try.ntmps20
    go_wp2_with fail
    refine (ck _).mono ?_; rintro e w1 ⟨rfl, hb1⟩
    go_wp2
    go_ret
    exact ⟨ret_int HN.out.symm, by (repeat (first | (with_reducible exact Below.refl _ _) | ((with_reducible refine below_alloc ?_ ?_ _); · (first | omega | (simp; done) | (simp; omega))) | ((with_reducible refine below_setCell ?_ ?_ _); · (first | omega | (simp; done) | (simp; omega))) | (with_reducible refine Below.drew ?_) | (with_reducible refine below_drewN ?_ _) | ((with_reducible refine below_call (by assumption) ?_ ?_); · (first | omega | (simp; done) | (simp; omega)))))⟩
set_option maxRecDepth 100000 in
set_option maxHeartbeats 4000000 in
theorem left_any (c a0 a1 a2 a3 a4 a5 : Int) (w : World) :
    Calls Try.prog 22 #[stV c a0 a1 a2 a3 a4 a5] w fun e w' => e = .returned (.int .i64 (leftN c a0 a1 a2 a3 a4 a5)) ∧ Below w.heap.size w w' := by
  have ck := fun W => check_any c a0 a1 a2 a3 a4 a5 W
  have ch := Lib.hid (fun W (hs : Smal 8192 a0 a1 a2 a3 a4 a5) => charged_any c a0 a1 a2 a3 a4 a5 W hs)
  have X0 := Bx7.new w 26 c a0 a1 a2 a3 a4 a5
  simp only [stV] at *
  by_cases h : chkN c a0 a1 a2 a3 a4 a5 = 0
  · obtain ⟨hs, hc, hq0, hq1⟩ := chk0 h
    have hs' := Lib.hid hs.wide
    have HN : Hid (leftN c a0 a1 a2 a3 a4 a5 = c - sumN a0 a1 a2 a3 a4 a5) := Lib.hid (by unfold leftN; rw [if_pos h])
    rw [h] at ck
    have X0' := Lib.hid X0
    clear X0 h hs
    have hw : IntKind.i64.wrap (c - sumN a0 a1 a2 a3 a4 a5) = c - sumN a0 a1 a2 a3 a4 a5 := IntWalk.i64_in _ (by omega)
    go_enter Try.func22, Try.ntmps22
    go_wp2_with fail
    refine (ck _).mono ?_; rintro e w1 ⟨rfl, hb1⟩
    have X1 := X0'.out.call hb1
    have B1 : Below w.heap.size w w1 := by (repeat (first | (with_reducible exact Below.refl _ _) | ((with_reducible refine below_alloc ?_ ?_ _); · (first | omega | (simp; done) | (simp; omega))) | ((with_reducible refine below_setCell ?_ ?_ _); · (first | omega | (simp; done) | (simp; omega))) | (with_reducible refine Below.drew ?_) | (with_reducible refine below_drewN ?_ _) | ((with_reducible refine below_call (by assumption) ?_ ?_); · (first | omega | (simp; done) | (simp; omega)))))
    obtain ⟨x0, x1, x2, x3, x4, x5, x6⟩ := id X1
    go_wp2_with fail
    have hout : ∀ w', Below w1.heap.size w1 w' → (w'.cell? ⟨w.heap.size, 0, none⟩ = some (.int .i64 c) ∧ w'.cell? ⟨w.heap.size, 1, none⟩ = some (.int .i64 a0) ∧ w'.cell? ⟨w.heap.size, 2, none⟩ = some (.int .i64 a1) ∧ w'.cell? ⟨w.heap.size, 3, none⟩ = some (.int .i64 a2) ∧ w'.cell? ⟨w.heap.size, 4, none⟩ = some (.int .i64 a3) ∧ w'.cell? ⟨w.heap.size, 5, none⟩ = some (.int .i64 a4) ∧ w'.cell? ⟨w.heap.size, 6, none⟩ = some (.int .i64 a5)) := fun w' h => X1.call h
    have hT : Below w1.heap.size w1 w1.drew := Below.drew (Below.refl _ _)
    clear x0 x1 x2 x3 x4 x5 x6 X1
    refine wp_region_held_drew (S := fun w' => w'.cell? ⟨w.heap.size, 0, none⟩ = some (.int .i64 c) ∧ w'.cell? ⟨w.heap.size, 1, none⟩ = some (.int .i64 a0) ∧ w'.cell? ⟨w.heap.size, 2, none⟩ = some (.int .i64 a1) ∧ w'.cell? ⟨w.heap.size, 3, none⟩ = some (.int .i64 a2) ∧ w'.cell? ⟨w.heap.size, 4, none⟩ = some (.int .i64 a3) ∧ w'.cell? ⟨w.heap.size, 5, none⟩ = some (.int .i64 a4) ∧ w'.cell? ⟨w.heap.size, 6, none⟩ = some (.int .i64 a5)) (by kernel_rfl) (hout _ (by assumption)) (fun hHeld => ?_)
    (refine wpAnyH_take (i := 0) (v := ?_) rfl (by kernel_rfl) (by kernel_rfl) (by kernel_rfl) (fun _ _ _ h => h) (Or.inl ⟨by rfl, ?_⟩) (by assumption) ?_; rotate_left 1; (focus (intro wz hz; (try dsimp only at hz); (try simp only [List.getElem_toArray, List.getElem_cons_succ, List.getElem_cons_zero]); go_simp; try (with_reducible rfl); done)))
    try simp only [Act.put, List.getElem_toArray, List.getElem_cons_succ, List.getElem_cons_zero, List.setIfInBounds_toArray, List.set_cons_zero, List.set_cons_succ]
    (refine wpAnyH_take (i := 2) (v := ?_) rfl (by kernel_rfl) (by kernel_rfl) (by kernel_rfl) (fun _ _ _ h => h) (Or.inl ⟨by rfl, ?_⟩) (by assumption) ?_; rotate_left 1; (focus (intro wz hz; (try dsimp only at hz); (try simp only [List.getElem_toArray, List.getElem_cons_succ, List.getElem_cons_zero]); go_simp; try (with_reducible rfl); done)))
    try simp only [Act.put, List.getElem_toArray, List.getElem_cons_succ, List.getElem_cons_zero, List.setIfInBounds_toArray, List.set_cons_zero, List.set_cons_succ]
    (refine wpAnyH_take (i := 1) (v := ?_) rfl (by kernel_rfl) (by kernel_rfl) (by kernel_rfl) (fun _ _ _ h => h) (Or.inl ⟨by rfl, ?_⟩) (by assumption) ?_; rotate_left 1; (focus (intro wz hz; (try dsimp only at hz); (try simp only [List.getElem_toArray, List.getElem_cons_succ, List.getElem_cons_zero]); go_simp; try (with_reducible rfl); done)))
    try simp only [Act.put, List.getElem_toArray, List.getElem_cons_succ, List.getElem_cons_zero, List.setIfInBounds_toArray, List.set_cons_zero, List.set_cons_succ]
    (refine wpAnyH_ready (rs := [3]) (by kernel_rfl) (by simp) ?_; refine AllReadyH.cons rfl (fun K hK => ?_) AllReadyH.nil; (try simp only [List.getElem_toArray, List.getElem_cons_succ, List.getElem_cons_zero]); go_simp; go_at_call 31; refine (ch.out _ hs'.out).mono ?_; rintro e wn3 ⟨rfl, hbn3⟩; have hT3 : Below w1.heap.size w1 wn3 := hT.trans (hbn3.mono (Nat.le_refl _)); (try (go_wp2_with fail)); refine hK.out _ _ (hout _ (by assumption)) (fun hHeld => ?_); clear hK K)
    try simp only [Act.put, List.getElem_toArray, List.getElem_cons_succ, List.getElem_cons_zero, List.setIfInBounds_toArray, List.set_cons_zero, List.set_cons_succ]
    (refine wpAnyH_take (i := 4) (v := ?_) rfl (by kernel_rfl) (by kernel_rfl) (by kernel_rfl) (fun _ _ _ h => h) (Or.inl ⟨by rfl, ?_⟩) (by assumption) ?_; rotate_left 1; (focus (intro wz hz; (try dsimp only at hz); (try simp only [List.getElem_toArray, List.getElem_cons_succ, List.getElem_cons_zero]); go_simp; try (with_reducible rfl); done)))
    try simp only [Act.put, List.getElem_toArray, List.getElem_cons_succ, List.getElem_cons_zero, List.setIfInBounds_toArray, List.set_cons_zero, List.set_cons_succ]
    (refine wpAnyH_take (i := 5) (v := ?_) rfl (by kernel_rfl) (by kernel_rfl) (by kernel_rfl) (fun _ _ _ h => h) (Or.inl ⟨by rfl, ?_⟩) (by assumption) ?_; rotate_left 1; (focus (intro wz hz; (try dsimp only at hz); (try simp only [List.getElem_toArray, List.getElem_cons_succ, List.getElem_cons_zero]); go_simp; try (with_reducible rfl); done)))
    try simp only [Act.put, List.getElem_toArray, List.getElem_cons_succ, List.getElem_cons_zero, List.setIfInBounds_toArray, List.set_cons_zero, List.set_cons_succ]
    refine wpAnyH_done (by kernel_rfl) ?_ _
    clear hHeld
    go_wp2
    go_ret
    exact ⟨ret_int (by first | exact HN.out.symm | (rw [HN.out]; assumption) | (rw [HN.out]; simp [*])), below_call (by assumption) B1.size B1⟩
  · have HN : Hid (leftN c a0 a1 a2 a3 a4 a5 = 0) := Lib.hid (by unfold leftN; rw [if_neg h])
    clear X0
    obtain ⟨E, hE⟩ : ∃ E, chkN c a0 a1 a2 a3 a4 a5 = E := ⟨_, rfl⟩
    rw [hE] at ck h
    clear hE
    go_enter Try.func22, Try.ntmps22
    go_wp2_with fail
    refine (ck _).mono ?_; rintro e w1 ⟨rfl, hb1⟩
    go_wp2
    go_ret
    exact ⟨ret_int HN.out.symm, by (repeat (first | (with_reducible exact Below.refl _ _) | ((with_reducible refine below_alloc ?_ ?_ _); · (first | omega | (simp; done) | (simp; omega))) | ((with_reducible refine below_setCell ?_ ?_ _); · (first | omega | (simp; done) | (simp; omega))) | (with_reducible refine Below.drew ?_) | (with_reducible refine below_drewN ?_ _) | ((with_reducible refine below_call (by assumption) ?_ ?_); · (first | omega | (simp; done) | (simp; omega)))))⟩
set_option maxRecDepth 100000 in
set_option maxHeartbeats 4000000 in
theorem load_any (c a0 a1 a2 a3 a4 a5 : Int) (w : World) :
    Calls Try.prog 24 #[stV c a0 a1 a2 a3 a4 a5] w fun e w' => e = .returned (.int .i64 (loadN c a0 a1 a2 a3 a4 a5)) ∧ Below w.heap.size w w' := by
  have ck := fun W => check_any c a0 a1 a2 a3 a4 a5 W
  have ch := Lib.hid (fun W (hs : Smal 8192 a0 a1 a2 a3 a4 a5) => charged_any c a0 a1 a2 a3 a4 a5 W hs)
  have X0 := Bx7.new w 26 c a0 a1 a2 a3 a4 a5
  simp only [stV] at *
  by_cases h : chkN c a0 a1 a2 a3 a4 a5 = 0
  · obtain ⟨hs, hc, hq0, hq1⟩ := chk0 h
    have hs' := Lib.hid hs.wide
    have HN : Hid (loadN c a0 a1 a2 a3 a4 a5 = Int.tdiv (sumN a0 a1 a2 a3 a4 a5 * 100) c) := Lib.hid (by unfold loadN; rw [if_pos h])
    rw [h] at ck
    have X0' := Lib.hid X0
    clear X0 h hs
    have hw : IntKind.i64.wrap (sumN a0 a1 a2 a3 a4 a5 * 100) = sumN a0 a1 a2 a3 a4 a5 * 100 := by rw [show sumN a0 a1 a2 a3 a4 a5 * 100 = sumN a0 a1 a2 a3 a4 a5 * 100 by omega]; exact IntWalk.i64_in _ (by omega)
    have hc0 : ¬ c = 0 := by omega
    have hd : IntKind.i64.wrap (Int.tdiv (sumN a0 a1 a2 a3 a4 a5 * 100) c) = Int.tdiv (sumN a0 a1 a2 a3 a4 a5 * 100) c := by
      rw [Int.tdiv_eq_ediv_of_nonneg (by omega)]
      have e1 := Int.ediv_nonneg (show 0 ≤ sumN a0 a1 a2 a3 a4 a5 * 100 by omega) (show 0 ≤ c by omega)
      have e2 := Int.ediv_le_self c (show 0 ≤ sumN a0 a1 a2 a3 a4 a5 * 100 by omega)
      exact IntWalk.i64_in _ (by omega)
    go_enter Try.func24, Try.ntmps24
    go_wp2_with fail
    refine (ck _).mono ?_; rintro e w1 ⟨rfl, hb1⟩
    have X1 := X0'.out.call hb1
    have B1 : Below w.heap.size w w1 := by (repeat (first | (with_reducible exact Below.refl _ _) | ((with_reducible refine below_alloc ?_ ?_ _); · (first | omega | (simp; done) | (simp; omega))) | ((with_reducible refine below_setCell ?_ ?_ _); · (first | omega | (simp; done) | (simp; omega))) | (with_reducible refine Below.drew ?_) | (with_reducible refine below_drewN ?_ _) | ((with_reducible refine below_call (by assumption) ?_ ?_); · (first | omega | (simp; done) | (simp; omega)))))
    obtain ⟨x0, x1, x2, x3, x4, x5, x6⟩ := id X1
    go_wp2_with fail
    have hout : ∀ w', Below w1.heap.size w1 w' → (w'.cell? ⟨w.heap.size, 0, none⟩ = some (.int .i64 c) ∧ w'.cell? ⟨w.heap.size, 1, none⟩ = some (.int .i64 a0) ∧ w'.cell? ⟨w.heap.size, 2, none⟩ = some (.int .i64 a1) ∧ w'.cell? ⟨w.heap.size, 3, none⟩ = some (.int .i64 a2) ∧ w'.cell? ⟨w.heap.size, 4, none⟩ = some (.int .i64 a3) ∧ w'.cell? ⟨w.heap.size, 5, none⟩ = some (.int .i64 a4) ∧ w'.cell? ⟨w.heap.size, 6, none⟩ = some (.int .i64 a5)) := fun w' h => X1.call h
    have hT : Below w1.heap.size w1 w1.drew := Below.drew (Below.refl _ _)
    clear x0 x1 x2 x3 x4 x5 x6 X1
    refine wp_region_held_drew (S := fun w' => w'.cell? ⟨w.heap.size, 0, none⟩ = some (.int .i64 c) ∧ w'.cell? ⟨w.heap.size, 1, none⟩ = some (.int .i64 a0) ∧ w'.cell? ⟨w.heap.size, 2, none⟩ = some (.int .i64 a1) ∧ w'.cell? ⟨w.heap.size, 3, none⟩ = some (.int .i64 a2) ∧ w'.cell? ⟨w.heap.size, 4, none⟩ = some (.int .i64 a3) ∧ w'.cell? ⟨w.heap.size, 5, none⟩ = some (.int .i64 a4) ∧ w'.cell? ⟨w.heap.size, 6, none⟩ = some (.int .i64 a5)) (by kernel_rfl) (hout _ (by assumption)) (fun hHeld => ?_)
    (refine wpAnyH_take (i := 0) (v := ?_) rfl (by kernel_rfl) (by kernel_rfl) (by kernel_rfl) (fun _ _ _ h => h) (Or.inl ⟨by rfl, ?_⟩) (by assumption) ?_; rotate_left 1; (focus (intro wz hz; (try dsimp only at hz); (try simp only [List.getElem_toArray, List.getElem_cons_succ, List.getElem_cons_zero]); go_simp; try (with_reducible rfl); done)))
    try simp only [Act.put, List.getElem_toArray, List.getElem_cons_succ, List.getElem_cons_zero, List.setIfInBounds_toArray, List.set_cons_zero, List.set_cons_succ]
    (refine wpAnyH_take (i := 3) (v := ?_) rfl (by kernel_rfl) (by kernel_rfl) (by kernel_rfl) (fun _ _ _ h => h) (Or.inl ⟨by rfl, ?_⟩) (by assumption) ?_; rotate_left 1; (focus (intro wz hz; (try dsimp only at hz); (try simp only [List.getElem_toArray, List.getElem_cons_succ, List.getElem_cons_zero]); go_simp; try (with_reducible rfl); done)))
    try simp only [Act.put, List.getElem_toArray, List.getElem_cons_succ, List.getElem_cons_zero, List.setIfInBounds_toArray, List.set_cons_zero, List.set_cons_succ]
    (refine wpAnyH_take (i := 4) (v := ?_) rfl (by kernel_rfl) (by kernel_rfl) (by kernel_rfl) (fun _ _ _ h => h) (Or.inl ⟨by rfl, ?_⟩) (by assumption) ?_; rotate_left 1; (focus (intro wz hz; (try dsimp only at hz); (try simp only [List.getElem_toArray, List.getElem_cons_succ, List.getElem_cons_zero]); go_simp; try (with_reducible rfl); done)))
    try simp only [Act.put, List.getElem_toArray, List.getElem_cons_succ, List.getElem_cons_zero, List.setIfInBounds_toArray, List.set_cons_zero, List.set_cons_succ]
    (refine wpAnyH_ready (rs := [1]) (by kernel_rfl) (by simp) ?_; refine AllReadyH.cons rfl (fun K hK => ?_) AllReadyH.nil; (try simp only [List.getElem_toArray, List.getElem_cons_succ, List.getElem_cons_zero]); go_simp; go_at_call 31; refine (ch.out _ hs'.out).mono ?_; rintro e wn1 ⟨rfl, hbn1⟩; have hT1 : Below w1.heap.size w1 wn1 := hT.trans (hbn1.mono (Nat.le_refl _)); (try (go_wp2_with fail)); refine hK.out _ _ (hout _ (by assumption)) (fun hHeld => ?_); clear hK K)
    try simp only [Act.put, List.getElem_toArray, List.getElem_cons_succ, List.getElem_cons_zero, List.setIfInBounds_toArray, List.set_cons_zero, List.set_cons_succ]
    (refine wpAnyH_take (i := 2) (v := ?_) rfl (by kernel_rfl) (by kernel_rfl) (by kernel_rfl) (fun _ _ _ h => h) (Or.inl ⟨by rfl, ?_⟩) (by assumption) ?_; rotate_left 1; (focus (intro wz hz; (try dsimp only at hz); (try simp only [List.getElem_toArray, List.getElem_cons_succ, List.getElem_cons_zero]); go_simp; try (with_reducible rfl); done)))
    try simp only [Act.put, List.getElem_toArray, List.getElem_cons_succ, List.getElem_cons_zero, List.setIfInBounds_toArray, List.set_cons_zero, List.set_cons_succ]
    (refine wpAnyH_take (i := 5) (v := ?_) rfl (by kernel_rfl) (by kernel_rfl) (by kernel_rfl) (fun _ _ _ h => h) (Or.inl ⟨by rfl, ?_⟩) (by assumption) ?_; rotate_left 1; (focus (intro wz hz; (try dsimp only at hz); (try simp only [List.getElem_toArray, List.getElem_cons_succ, List.getElem_cons_zero]); go_simp; try (with_reducible rfl); done)))
    try simp only [Act.put, List.getElem_toArray, List.getElem_cons_succ, List.getElem_cons_zero, List.setIfInBounds_toArray, List.set_cons_zero, List.set_cons_succ]
    (refine wpAnyH_take (i := 6) (v := ?_) rfl (by kernel_rfl) (by kernel_rfl) (by kernel_rfl) (fun _ _ _ h => h) (Or.inl ⟨by rfl, ?_⟩) (by assumption) ?_; rotate_left 1; (focus (intro wz hz; (try dsimp only at hz); (try simp only [List.getElem_toArray, List.getElem_cons_succ, List.getElem_cons_zero]); go_simp; try (with_reducible rfl); done)))
    try simp only [Act.put, List.getElem_toArray, List.getElem_cons_succ, List.getElem_cons_zero, List.setIfInBounds_toArray, List.set_cons_zero, List.set_cons_succ]
    refine wpAnyH_done (by kernel_rfl) ?_ _
    clear hHeld
    go_wp2
    go_ret
    exact ⟨ret_int (by first | exact HN.out.symm | (rw [HN.out]; assumption) | (rw [HN.out]; simp [*])), below_call (by assumption) B1.size B1⟩
  · have HN : Hid (loadN c a0 a1 a2 a3 a4 a5 = 0) := Lib.hid (by unfold loadN; rw [if_neg h])
    clear X0
    obtain ⟨E, hE⟩ : ∃ E, chkN c a0 a1 a2 a3 a4 a5 = E := ⟨_, rfl⟩
    rw [hE] at ck h
    clear hE
    go_enter Try.func24, Try.ntmps24
    go_wp2_with fail
    refine (ck _).mono ?_; rintro e w1 ⟨rfl, hb1⟩
    go_wp2
    go_ret
    exact ⟨ret_int HN.out.symm, by (repeat (first | (with_reducible exact Below.refl _ _) | ((with_reducible refine below_alloc ?_ ?_ _); · (first | omega | (simp; done) | (simp; omega))) | ((with_reducible refine below_setCell ?_ ?_ _); · (first | omega | (simp; done) | (simp; omega))) | (with_reducible refine Below.drew ?_) | (with_reducible refine below_drewN ?_ _) | ((with_reducible refine below_call (by assumption) ?_ ?_); · (first | omega | (simp; done) | (simp; omega)))))⟩
set_option maxRecDepth 100000 in
set_option maxHeartbeats 4000000 in
theorem totD_any (c a0 a1 a2 a3 a4 a5 : Int) (w : World) :
    Calls Try.prog 21 #[stV c a0 a1 a2 a3 a4 a5] w fun e w' => e = .returned (.int .i64 (totN c a0 a1 a2 a3 a4 a5)) ∧ Below w.heap.size w w' := by
  have ck := fun W => checkD_any c a0 a1 a2 a3 a4 a5 W
  have ch := Lib.hid (fun W (hs : Smal 8192 a0 a1 a2 a3 a4 a5) => total_any c a0 a1 a2 a3 a4 a5 W hs)
  have X0 := Bx7.new w 24 c a0 a1 a2 a3 a4 a5
  simp only [stV] at *
  by_cases h : chkN c a0 a1 a2 a3 a4 a5 = 0
  · obtain ⟨hs, hc, hq0, hq1⟩ := chk0 h
    have hs' := Lib.hid hs.wide
    have HN : Hid (totN c a0 a1 a2 a3 a4 a5 = sumN a0 a1 a2 a3 a4 a5) := Lib.hid (by unfold totN; rw [if_pos h])
    rw [h] at ck
    have X0' := Lib.hid X0
    clear X0 h hs
    go_enter Try.func21, Try.ntmps21
    go_wp2_with fail
    refine (ck _).mono ?_; rintro e w1 ⟨rfl, hb1⟩
    obtain ⟨hk1, hf1, hz1⟩ := bcellN (n := w.heap.size + 1) (by (try simp only [World.size_drew, World.size_alloc, World.size_setCell]); omega) hb1; have hz1_0 : w.heap.size < w1.heap.size := (by omega)
    go_wp2_with fail
    refine (ch.out _ hs'.out).mono ?_; rintro e w2 ⟨rfl, hb2⟩
    go_wp2_with fail
    go_ret
    exact ⟨ret_int HN.out.symm, by (repeat (first | (with_reducible exact Below.refl _ _) | ((with_reducible refine below_alloc ?_ ?_ _); · (first | omega | (simp; done) | (simp; omega))) | ((with_reducible refine below_setCell ?_ ?_ _); · (first | omega | (simp; done) | (simp; omega))) | (with_reducible refine Below.drew ?_) | (with_reducible refine below_drewN ?_ _) | ((with_reducible refine below_call (by assumption) ?_ ?_); · (first | omega | (simp; done) | (simp; omega)))))⟩
  · have HN : Hid (totN c a0 a1 a2 a3 a4 a5 = 0) := Lib.hid (by unfold totN; rw [if_neg h])
    clear X0
    obtain ⟨E, hE⟩ : ∃ E, chkN c a0 a1 a2 a3 a4 a5 = E := ⟨_, rfl⟩
    rw [hE] at ck h
    clear hE
    go_enter Try.func21, Try.ntmps21
    go_wp2_with fail
    refine (ck _).mono ?_; rintro e w1 ⟨rfl, hb1⟩
    go_wp2
    go_ret
    exact ⟨ret_int HN.out.symm, by (repeat (first | (with_reducible exact Below.refl _ _) | ((with_reducible refine below_alloc ?_ ?_ _); · (first | omega | (simp; done) | (simp; omega))) | ((with_reducible refine below_setCell ?_ ?_ _); · (first | omega | (simp; done) | (simp; omega))) | (with_reducible refine Below.drew ?_) | (with_reducible refine below_drewN ?_ _) | ((with_reducible refine below_call (by assumption) ?_ ?_); · (first | omega | (simp; done) | (simp; omega)))))⟩
set_option maxRecDepth 100000 in
set_option maxHeartbeats 4000000 in
theorem leftD_any (c a0 a1 a2 a3 a4 a5 : Int) (w : World) :
    Calls Try.prog 23 #[stV c a0 a1 a2 a3 a4 a5] w fun e w' => e = .returned (.int .i64 (leftN c a0 a1 a2 a3 a4 a5)) ∧ Below w.heap.size w w' := by
  have ck := fun W => checkD_any c a0 a1 a2 a3 a4 a5 W
  have ch := Lib.hid (fun W (hs : Smal 8192 a0 a1 a2 a3 a4 a5) => total_any c a0 a1 a2 a3 a4 a5 W hs)
  have X0 := Bx7.new w 24 c a0 a1 a2 a3 a4 a5
  simp only [stV] at *
  by_cases h : chkN c a0 a1 a2 a3 a4 a5 = 0
  · obtain ⟨hs, hc, hq0, hq1⟩ := chk0 h
    have hs' := Lib.hid hs.wide
    have HN : Hid (leftN c a0 a1 a2 a3 a4 a5 = c - sumN a0 a1 a2 a3 a4 a5) := Lib.hid (by unfold leftN; rw [if_pos h])
    rw [h] at ck
    have X0' := Lib.hid X0
    clear X0 h hs
    have hw : IntKind.i64.wrap (c - sumN a0 a1 a2 a3 a4 a5) = c - sumN a0 a1 a2 a3 a4 a5 := IntWalk.i64_in _ (by omega)
    go_enter Try.func23, Try.ntmps23
    go_wp2_with fail
    refine (ck _).mono ?_; rintro e w1 ⟨rfl, hb1⟩
    have X1 := X0'.out.call hb1
    have B1 : Below w.heap.size w w1 := by (repeat (first | (with_reducible exact Below.refl _ _) | ((with_reducible refine below_alloc ?_ ?_ _); · (first | omega | (simp; done) | (simp; omega))) | ((with_reducible refine below_setCell ?_ ?_ _); · (first | omega | (simp; done) | (simp; omega))) | (with_reducible refine Below.drew ?_) | (with_reducible refine below_drewN ?_ _) | ((with_reducible refine below_call (by assumption) ?_ ?_); · (first | omega | (simp; done) | (simp; omega)))))
    obtain ⟨x0, x1, x2, x3, x4, x5, x6⟩ := id X1
    go_wp2_with fail
    have hout : ∀ w', Below w1.heap.size w1 w' → (w'.cell? ⟨w.heap.size, 0, none⟩ = some (.int .i64 c) ∧ w'.cell? ⟨w.heap.size, 1, none⟩ = some (.int .i64 a0) ∧ w'.cell? ⟨w.heap.size, 2, none⟩ = some (.int .i64 a1) ∧ w'.cell? ⟨w.heap.size, 3, none⟩ = some (.int .i64 a2) ∧ w'.cell? ⟨w.heap.size, 4, none⟩ = some (.int .i64 a3) ∧ w'.cell? ⟨w.heap.size, 5, none⟩ = some (.int .i64 a4) ∧ w'.cell? ⟨w.heap.size, 6, none⟩ = some (.int .i64 a5)) := fun w' h => X1.call h
    have hT : Below w1.heap.size w1 w1.drew := Below.drew (Below.refl _ _)
    clear x0 x1 x2 x3 x4 x5 x6 X1
    refine wp_region_held_drew (S := fun w' => w'.cell? ⟨w.heap.size, 0, none⟩ = some (.int .i64 c) ∧ w'.cell? ⟨w.heap.size, 1, none⟩ = some (.int .i64 a0) ∧ w'.cell? ⟨w.heap.size, 2, none⟩ = some (.int .i64 a1) ∧ w'.cell? ⟨w.heap.size, 3, none⟩ = some (.int .i64 a2) ∧ w'.cell? ⟨w.heap.size, 4, none⟩ = some (.int .i64 a3) ∧ w'.cell? ⟨w.heap.size, 5, none⟩ = some (.int .i64 a4) ∧ w'.cell? ⟨w.heap.size, 6, none⟩ = some (.int .i64 a5)) (by kernel_rfl) (hout _ (by assumption)) (fun hHeld => ?_)
    (refine wpAnyH_take (i := 0) (v := ?_) rfl (by kernel_rfl) (by kernel_rfl) (by kernel_rfl) (fun _ _ _ h => h) (Or.inl ⟨by rfl, ?_⟩) (by assumption) ?_; rotate_left 1; (focus (intro wz hz; (try dsimp only at hz); (try simp only [List.getElem_toArray, List.getElem_cons_succ, List.getElem_cons_zero]); go_simp; try (with_reducible rfl); done)))
    try simp only [Act.put, List.getElem_toArray, List.getElem_cons_succ, List.getElem_cons_zero, List.setIfInBounds_toArray, List.set_cons_zero, List.set_cons_succ]
    (refine wpAnyH_take (i := 2) (v := ?_) rfl (by kernel_rfl) (by kernel_rfl) (by kernel_rfl) (fun _ _ _ h => h) (Or.inl ⟨by rfl, ?_⟩) (by assumption) ?_; rotate_left 1; (focus (intro wz hz; (try dsimp only at hz); (try simp only [List.getElem_toArray, List.getElem_cons_succ, List.getElem_cons_zero]); go_simp; try (with_reducible rfl); done)))
    try simp only [Act.put, List.getElem_toArray, List.getElem_cons_succ, List.getElem_cons_zero, List.setIfInBounds_toArray, List.set_cons_zero, List.set_cons_succ]
    (refine wpAnyH_take (i := 1) (v := ?_) rfl (by kernel_rfl) (by kernel_rfl) (by kernel_rfl) (fun _ _ _ h => h) (Or.inl ⟨by rfl, ?_⟩) (by assumption) ?_; rotate_left 1; (focus (intro wz hz; (try dsimp only at hz); (try simp only [List.getElem_toArray, List.getElem_cons_succ, List.getElem_cons_zero]); go_simp; try (with_reducible rfl); done)))
    try simp only [Act.put, List.getElem_toArray, List.getElem_cons_succ, List.getElem_cons_zero, List.setIfInBounds_toArray, List.set_cons_zero, List.set_cons_succ]
    (refine wpAnyH_ready (rs := [3]) (by kernel_rfl) (by simp) ?_; refine AllReadyH.cons rfl (fun K hK => ?_) AllReadyH.nil; (try simp only [List.getElem_toArray, List.getElem_cons_succ, List.getElem_cons_zero]); go_simp; go_at_call 32; refine (ch.out _ hs'.out).mono ?_; rintro e wn3 ⟨rfl, hbn3⟩; have hT3 : Below w1.heap.size w1 wn3 := hT.trans (hbn3.mono (Nat.le_refl _)); (try (go_wp2_with fail)); refine hK.out _ _ (hout _ (by assumption)) (fun hHeld => ?_); clear hK K)
    try simp only [Act.put, List.getElem_toArray, List.getElem_cons_succ, List.getElem_cons_zero, List.setIfInBounds_toArray, List.set_cons_zero, List.set_cons_succ]
    (refine wpAnyH_take (i := 4) (v := ?_) rfl (by kernel_rfl) (by kernel_rfl) (by kernel_rfl) (fun _ _ _ h => h) (Or.inl ⟨by rfl, ?_⟩) (by assumption) ?_; rotate_left 1; (focus (intro wz hz; (try dsimp only at hz); (try simp only [List.getElem_toArray, List.getElem_cons_succ, List.getElem_cons_zero]); go_simp; try (with_reducible rfl); done)))
    try simp only [Act.put, List.getElem_toArray, List.getElem_cons_succ, List.getElem_cons_zero, List.setIfInBounds_toArray, List.set_cons_zero, List.set_cons_succ]
    (refine wpAnyH_take (i := 5) (v := ?_) rfl (by kernel_rfl) (by kernel_rfl) (by kernel_rfl) (fun _ _ _ h => h) (Or.inl ⟨by rfl, ?_⟩) (by assumption) ?_; rotate_left 1; (focus (intro wz hz; (try dsimp only at hz); (try simp only [List.getElem_toArray, List.getElem_cons_succ, List.getElem_cons_zero]); go_simp; try (with_reducible rfl); done)))
    try simp only [Act.put, List.getElem_toArray, List.getElem_cons_succ, List.getElem_cons_zero, List.setIfInBounds_toArray, List.set_cons_zero, List.set_cons_succ]
    refine wpAnyH_done (by kernel_rfl) ?_ _
    clear hHeld
    go_wp2
    go_ret
    exact ⟨ret_int (by first | exact HN.out.symm | (rw [HN.out]; assumption) | (rw [HN.out]; simp [*])), below_call (by assumption) B1.size B1⟩
  · have HN : Hid (leftN c a0 a1 a2 a3 a4 a5 = 0) := Lib.hid (by unfold leftN; rw [if_neg h])
    clear X0
    obtain ⟨E, hE⟩ : ∃ E, chkN c a0 a1 a2 a3 a4 a5 = E := ⟨_, rfl⟩
    rw [hE] at ck h
    clear hE
    go_enter Try.func23, Try.ntmps23
    go_wp2_with fail
    refine (ck _).mono ?_; rintro e w1 ⟨rfl, hb1⟩
    go_wp2
    go_ret
    exact ⟨ret_int HN.out.symm, by (repeat (first | (with_reducible exact Below.refl _ _) | ((with_reducible refine below_alloc ?_ ?_ _); · (first | omega | (simp; done) | (simp; omega))) | ((with_reducible refine below_setCell ?_ ?_ _); · (first | omega | (simp; done) | (simp; omega))) | (with_reducible refine Below.drew ?_) | (with_reducible refine below_drewN ?_ _) | ((with_reducible refine below_call (by assumption) ?_ ?_); · (first | omega | (simp; done) | (simp; omega)))))⟩
set_option maxRecDepth 100000 in
set_option maxHeartbeats 4000000 in
theorem loadD_any (c a0 a1 a2 a3 a4 a5 : Int) (w : World) :
    Calls Try.prog 25 #[stV c a0 a1 a2 a3 a4 a5] w fun e w' => e = .returned (.int .i64 (loadN c a0 a1 a2 a3 a4 a5)) ∧ Below w.heap.size w w' := by
  have ck := fun W => checkD_any c a0 a1 a2 a3 a4 a5 W
  have ch := Lib.hid (fun W (hs : Smal 8192 a0 a1 a2 a3 a4 a5) => total_any c a0 a1 a2 a3 a4 a5 W hs)
  have X0 := Bx7.new w 24 c a0 a1 a2 a3 a4 a5
  simp only [stV] at *
  by_cases h : chkN c a0 a1 a2 a3 a4 a5 = 0
  · obtain ⟨hs, hc, hq0, hq1⟩ := chk0 h
    have hs' := Lib.hid hs.wide
    have HN : Hid (loadN c a0 a1 a2 a3 a4 a5 = Int.tdiv (sumN a0 a1 a2 a3 a4 a5 * 100) c) := Lib.hid (by unfold loadN; rw [if_pos h])
    rw [h] at ck
    have X0' := Lib.hid X0
    clear X0 h hs
    have hw : IntKind.i64.wrap (100 * sumN a0 a1 a2 a3 a4 a5) = sumN a0 a1 a2 a3 a4 a5 * 100 := by rw [show 100 * sumN a0 a1 a2 a3 a4 a5 = sumN a0 a1 a2 a3 a4 a5 * 100 by omega]; exact IntWalk.i64_in _ (by omega)
    have hc0 : ¬ c = 0 := by omega
    have hd : IntKind.i64.wrap (Int.tdiv (sumN a0 a1 a2 a3 a4 a5 * 100) c) = Int.tdiv (sumN a0 a1 a2 a3 a4 a5 * 100) c := by
      rw [Int.tdiv_eq_ediv_of_nonneg (by omega)]
      have e1 := Int.ediv_nonneg (show 0 ≤ sumN a0 a1 a2 a3 a4 a5 * 100 by omega) (show 0 ≤ c by omega)
      have e2 := Int.ediv_le_self c (show 0 ≤ sumN a0 a1 a2 a3 a4 a5 * 100 by omega)
      exact IntWalk.i64_in _ (by omega)
    go_enter Try.func25, Try.ntmps25
    go_wp2_with fail
    refine (ck _).mono ?_; rintro e w1 ⟨rfl, hb1⟩
    have X1 := X0'.out.call hb1
    have B1 : Below w.heap.size w w1 := by (repeat (first | (with_reducible exact Below.refl _ _) | ((with_reducible refine below_alloc ?_ ?_ _); · (first | omega | (simp; done) | (simp; omega))) | ((with_reducible refine below_setCell ?_ ?_ _); · (first | omega | (simp; done) | (simp; omega))) | (with_reducible refine Below.drew ?_) | (with_reducible refine below_drewN ?_ _) | ((with_reducible refine below_call (by assumption) ?_ ?_); · (first | omega | (simp; done) | (simp; omega)))))
    obtain ⟨x0, x1, x2, x3, x4, x5, x6⟩ := id X1
    go_wp2_with fail
    have hout : ∀ w', Below w1.heap.size w1 w' → (w'.cell? ⟨w.heap.size, 0, none⟩ = some (.int .i64 c) ∧ w'.cell? ⟨w.heap.size, 1, none⟩ = some (.int .i64 a0) ∧ w'.cell? ⟨w.heap.size, 2, none⟩ = some (.int .i64 a1) ∧ w'.cell? ⟨w.heap.size, 3, none⟩ = some (.int .i64 a2) ∧ w'.cell? ⟨w.heap.size, 4, none⟩ = some (.int .i64 a3) ∧ w'.cell? ⟨w.heap.size, 5, none⟩ = some (.int .i64 a4) ∧ w'.cell? ⟨w.heap.size, 6, none⟩ = some (.int .i64 a5)) := fun w' h => X1.call h
    have hT : Below w1.heap.size w1 w1.drew := Below.drew (Below.refl _ _)
    clear x0 x1 x2 x3 x4 x5 x6 X1
    refine wp_region_held_drew (S := fun w' => w'.cell? ⟨w.heap.size, 0, none⟩ = some (.int .i64 c) ∧ w'.cell? ⟨w.heap.size, 1, none⟩ = some (.int .i64 a0) ∧ w'.cell? ⟨w.heap.size, 2, none⟩ = some (.int .i64 a1) ∧ w'.cell? ⟨w.heap.size, 3, none⟩ = some (.int .i64 a2) ∧ w'.cell? ⟨w.heap.size, 4, none⟩ = some (.int .i64 a3) ∧ w'.cell? ⟨w.heap.size, 5, none⟩ = some (.int .i64 a4) ∧ w'.cell? ⟨w.heap.size, 6, none⟩ = some (.int .i64 a5)) (by kernel_rfl) (hout _ (by assumption)) (fun hHeld => ?_)
    (refine wpAnyH_take (i := 0) (v := ?_) rfl (by kernel_rfl) (by kernel_rfl) (by kernel_rfl) (fun _ _ _ h => h) (Or.inl ⟨by rfl, ?_⟩) (by assumption) ?_; rotate_left 1; (focus (intro wz hz; (try dsimp only at hz); (try simp only [List.getElem_toArray, List.getElem_cons_succ, List.getElem_cons_zero]); go_simp; try (with_reducible rfl); done)))
    try simp only [Act.put, List.getElem_toArray, List.getElem_cons_succ, List.getElem_cons_zero, List.setIfInBounds_toArray, List.set_cons_zero, List.set_cons_succ]
    (refine wpAnyH_take (i := 3) (v := ?_) rfl (by kernel_rfl) (by kernel_rfl) (by kernel_rfl) (fun _ _ _ h => h) (Or.inl ⟨by rfl, ?_⟩) (by assumption) ?_; rotate_left 1; (focus (intro wz hz; (try dsimp only at hz); (try simp only [List.getElem_toArray, List.getElem_cons_succ, List.getElem_cons_zero]); go_simp; try (with_reducible rfl); done)))
    try simp only [Act.put, List.getElem_toArray, List.getElem_cons_succ, List.getElem_cons_zero, List.setIfInBounds_toArray, List.set_cons_zero, List.set_cons_succ]
    (refine wpAnyH_take (i := 4) (v := ?_) rfl (by kernel_rfl) (by kernel_rfl) (by kernel_rfl) (fun _ _ _ h => h) (Or.inl ⟨by rfl, ?_⟩) (by assumption) ?_; rotate_left 1; (focus (intro wz hz; (try dsimp only at hz); (try simp only [List.getElem_toArray, List.getElem_cons_succ, List.getElem_cons_zero]); go_simp; try (with_reducible rfl); done)))
    try simp only [Act.put, List.getElem_toArray, List.getElem_cons_succ, List.getElem_cons_zero, List.setIfInBounds_toArray, List.set_cons_zero, List.set_cons_succ]
    (refine wpAnyH_ready (rs := [1]) (by kernel_rfl) (by simp) ?_; refine AllReadyH.cons rfl (fun K hK => ?_) AllReadyH.nil; (try simp only [List.getElem_toArray, List.getElem_cons_succ, List.getElem_cons_zero]); go_simp; go_at_call 32; refine (ch.out _ hs'.out).mono ?_; rintro e wn1 ⟨rfl, hbn1⟩; have hT1 : Below w1.heap.size w1 wn1 := hT.trans (hbn1.mono (Nat.le_refl _)); (try (go_wp2_with fail)); refine hK.out _ _ (hout _ (by assumption)) (fun hHeld => ?_); clear hK K)
    try simp only [Act.put, List.getElem_toArray, List.getElem_cons_succ, List.getElem_cons_zero, List.setIfInBounds_toArray, List.set_cons_zero, List.set_cons_succ]
    (refine wpAnyH_take (i := 2) (v := ?_) rfl (by kernel_rfl) (by kernel_rfl) (by kernel_rfl) (fun _ _ _ h => h) (Or.inl ⟨by rfl, ?_⟩) (by assumption) ?_; rotate_left 1; (focus (intro wz hz; (try dsimp only at hz); (try simp only [List.getElem_toArray, List.getElem_cons_succ, List.getElem_cons_zero]); go_simp; try (with_reducible rfl); done)))
    try simp only [Act.put, List.getElem_toArray, List.getElem_cons_succ, List.getElem_cons_zero, List.setIfInBounds_toArray, List.set_cons_zero, List.set_cons_succ]
    (refine wpAnyH_take (i := 5) (v := ?_) rfl (by kernel_rfl) (by kernel_rfl) (by kernel_rfl) (fun _ _ _ h => h) (Or.inl ⟨by rfl, ?_⟩) (by assumption) ?_; rotate_left 1; (focus (intro wz hz; (try dsimp only at hz); (try simp only [List.getElem_toArray, List.getElem_cons_succ, List.getElem_cons_zero]); go_simp; try (with_reducible rfl); done)))
    try simp only [Act.put, List.getElem_toArray, List.getElem_cons_succ, List.getElem_cons_zero, List.setIfInBounds_toArray, List.set_cons_zero, List.set_cons_succ]
    (refine wpAnyH_take (i := 6) (v := ?_) rfl (by kernel_rfl) (by kernel_rfl) (by kernel_rfl) (fun _ _ _ h => h) (Or.inl ⟨by rfl, ?_⟩) (by assumption) ?_; rotate_left 1; (focus (intro wz hz; (try dsimp only at hz); (try simp only [List.getElem_toArray, List.getElem_cons_succ, List.getElem_cons_zero]); go_simp; try (with_reducible rfl); done)))
    try simp only [Act.put, List.getElem_toArray, List.getElem_cons_succ, List.getElem_cons_zero, List.setIfInBounds_toArray, List.set_cons_zero, List.set_cons_succ]
    refine wpAnyH_done (by kernel_rfl) ?_ _
    clear hHeld
    go_wp2
    go_ret
    exact ⟨ret_int (by first | exact HN.out.symm | (rw [HN.out]; assumption) | (rw [HN.out]; simp [*])), below_call (by assumption) B1.size B1⟩
  · have HN : Hid (loadN c a0 a1 a2 a3 a4 a5 = 0) := Lib.hid (by unfold loadN; rw [if_neg h])
    clear X0
    obtain ⟨E, hE⟩ : ∃ E, chkN c a0 a1 a2 a3 a4 a5 = E := ⟨_, rfl⟩
    rw [hE] at ck h
    clear hE
    go_enter Try.func25, Try.ntmps25
    go_wp2_with fail
    refine (ck _).mono ?_; rintro e w1 ⟨rfl, hb1⟩
    go_wp2
    go_ret
    exact ⟨ret_int HN.out.symm, by (repeat (first | (with_reducible exact Below.refl _ _) | ((with_reducible refine below_alloc ?_ ?_ _); · (first | omega | (simp; done) | (simp; omega))) | ((with_reducible refine below_setCell ?_ ?_ _); · (first | omega | (simp; done) | (simp; omega))) | (with_reducible refine Below.drew ?_) | (with_reducible refine below_drewN ?_ _) | ((with_reducible refine below_call (by assumption) ?_ ?_); · (first | omega | (simp; done) | (simp; omega)))))⟩
end Go.Proofs.Ytkohdfmhigejoaa
