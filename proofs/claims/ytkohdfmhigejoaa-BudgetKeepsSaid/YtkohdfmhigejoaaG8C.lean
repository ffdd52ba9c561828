/- Layer 8: whether a state may be: Check of both. -/
import Derived.Test.YtkohdfmhigejoaaG8B
namespace Go.Proofs.Ytkohdfmhigejoaa
open Go.RowKit
set_option linter.unusedVariables false
set_option linter.unusedSimpArgs false

/-- is each number from none to 4096? -/
def okB (a0 a1 a2 a3 a4 a5 : Int) : Bool := inB a0 0 4096 && (inB a1 0 4096 && (inB a2 0 4096 && (inB a3 0 4096 && (inB a4 0 4096 && inB a5 0 4096))))
/-- what Check tells: 8 a number out of its range, 7 too many cells, 0 neither -/
def chkN (c a0 a1 a2 a3 a4 a5 : Int) : Int := if (capB c && okB a0 a1 a2 a3 a4 a5) = true then (if c < sumN a0 a1 a2 a3 a4 a5 then 7 else 0) else 8
theorem okB_iff {a0 a1 a2 a3 a4 a5 : Int} : okB a0 a1 a2 a3 a4 a5 = true ↔ Smal 4096 a0 a1 a2 a3 a4 a5 := by
  unfold okB Smal
  simp only [Bool.and_eq_true, inB_iff]
theorem Smal.wide {a0 a1 a2 a3 a4 a5 : Int} (h : Smal 4096 a0 a1 a2 a3 a4 a5) : Smal 8192 a0 a1 a2 a3 a4 a5 := by
  unfold Smal at h ⊢
  omega
theorem chkN_bad {c a0 a1 a2 a3 a4 a5 : Int} (h : ¬ (capB c = true ∧ Smal 4096 a0 a1 a2 a3 a4 a5)) : chkN c a0 a1 a2 a3 a4 a5 = 8 := by
  unfold chkN
  rw [if_neg]
  rw [Bool.and_eq_true, okB_iff]
  exact h
theorem chkN_ok {c a0 a1 a2 a3 a4 a5 : Int} (hc : capB c = true) (h : Smal 4096 a0 a1 a2 a3 a4 a5) : chkN c a0 a1 a2 a3 a4 a5 = if c < sumN a0 a1 a2 a3 a4 a5 then 7 else 0 := by
  unfold chkN
  rw [if_pos]
  rw [Bool.and_eq_true, okB_iff]
  exact ⟨hc, h⟩
set_option maxRecDepth 100000 in
set_option maxHeartbeats 4000000 in
theorem check_any (c a0 a1 a2 a3 a4 a5 : Int) (w : World) :
    Calls Try.prog 18 #[stV c a0 a1 a2 a3 a4 a5] w fun e w' => e = .returned (.int .i64 (chkN c a0 a1 a2 a3 a4 a5)) ∧ Below w.heap.size w w' := by
  obtain ⟨i0, i1, i2, i3, i4, i5⟩ := index_at a0 a1 a2 a3 a4 a5
  have cc := fun W => isCap_any c W
  simp only [stV, manyV] at *
  cases hc : capB c with
  | false =>
    have HN : Hid (chkN c a0 a1 a2 a3 a4 a5 = 8) := Lib.hid (chkN_bad (fun h => by rw [hc] at h; cases h.1))
    rw [hc] at cc
    go_enter Try.func18, Try.ntmps18
    go_wp2_with fail
    refine (cc _).mono ?_; rintro e w1 ⟨rfl, rfl⟩
    go_wp2_with fail
    go_ret
    exact ⟨ret_int HN.out.symm, by (repeat (first | (with_reducible exact Below.refl _ _) | ((with_reducible refine below_alloc ?_ ?_ _); · (first | omega | (simp; done) | (simp; omega))) | ((with_reducible refine below_setCell ?_ ?_ _); · (first | omega | (simp; done) | (simp; omega))) | (with_reducible refine Below.drew ?_) | (with_reducible refine below_drewN ?_ _) | ((with_reducible refine below_call (by assumption) ?_ ?_); · (first | omega | (simp; done) | (simp; omega)))))⟩
  | true =>
    rw [hc] at cc
    go_enter Try.func18, Try.ntmps18
    go_wp2_with fail
    refine (cc _).mono ?_; rintro e w1 ⟨rfl, rfl⟩
    go_wp2_with fail
    refine wp_loop_rounds 7 ?_
    rw [rounds_succ]
    by_cases hk : a0 < 0
    · have HN : Hid (chkN c a0 a1 a2 a3 a4 a5 = 8) := Lib.hid (chkN_bad (fun h => by have := h.2.1; omega))
      go_wp2
      go_ret
      exact ⟨ret_int HN.out.symm, by (repeat (first | (with_reducible exact Below.refl _ _) | ((with_reducible refine below_alloc ?_ ?_ _); · (first | omega | (simp; done) | (simp; omega))) | ((with_reducible refine below_setCell ?_ ?_ _); · (first | omega | (simp; done) | (simp; omega))) | (with_reducible refine Below.drew ?_) | (with_reducible refine below_drewN ?_ _) | ((with_reducible refine below_call (by assumption) ?_ ?_); · (first | omega | (simp; done) | (simp; omega)))))⟩
    have hn0 : 0 ≤ a0 := by omega
    clear hk
    by_cases hk : 4096 < a0
    · have HN : Hid (chkN c a0 a1 a2 a3 a4 a5 = 8) := Lib.hid (chkN_bad (fun h => by have := h.2.1; omega))
      have hnn : 0 ≤ a0 := hn0
      go_wp2
      go_ret
      exact ⟨ret_int HN.out.symm, by (repeat (first | (with_reducible exact Below.refl _ _) | ((with_reducible refine below_alloc ?_ ?_ _); · (first | omega | (simp; done) | (simp; omega))) | ((with_reducible refine below_setCell ?_ ?_ _); · (first | omega | (simp; done) | (simp; omega))) | (with_reducible refine Below.drew ?_) | (with_reducible refine below_drewN ?_ _) | ((with_reducible refine below_call (by assumption) ?_ ?_); · (first | omega | (simp; done) | (simp; omega)))))⟩
    have h0 : 0 ≤ a0 ∧ a0 ≤ 4096 := by omega
    have hm0 : a0 ≤ 4096 := h0.2
    clear hk
    go_wp2
    clear hn0 hm0
    rw [rounds_succ]
    by_cases hk : a1 < 0
    · have HN : Hid (chkN c a0 a1 a2 a3 a4 a5 = 8) := Lib.hid (chkN_bad (fun h => by have := h.2.2.1; omega))
      go_wp2
      go_ret
      exact ⟨ret_int HN.out.symm, by (repeat (first | (with_reducible exact Below.refl _ _) | ((with_reducible refine below_alloc ?_ ?_ _); · (first | omega | (simp; done) | (simp; omega))) | ((with_reducible refine below_setCell ?_ ?_ _); · (first | omega | (simp; done) | (simp; omega))) | (with_reducible refine Below.drew ?_) | (with_reducible refine below_drewN ?_ _) | ((with_reducible refine below_call (by assumption) ?_ ?_); · (first | omega | (simp; done) | (simp; omega)))))⟩
    have hn1 : 0 ≤ a1 := by omega
    clear hk
    by_cases hk : 4096 < a1
    · have HN : Hid (chkN c a0 a1 a2 a3 a4 a5 = 8) := Lib.hid (chkN_bad (fun h => by have := h.2.2.1; omega))
      have hnn : 0 ≤ a1 := hn1
      go_wp2
      go_ret
      exact ⟨ret_int HN.out.symm, by (repeat (first | (with_reducible exact Below.refl _ _) | ((with_reducible refine below_alloc ?_ ?_ _); · (first | omega | (simp; done) | (simp; omega))) | ((with_reducible refine below_setCell ?_ ?_ _); · (first | omega | (simp; done) | (simp; omega))) | (with_reducible refine Below.drew ?_) | (with_reducible refine below_drewN ?_ _) | ((with_reducible refine below_call (by assumption) ?_ ?_); · (first | omega | (simp; done) | (simp; omega)))))⟩
    have h1 : 0 ≤ a1 ∧ a1 ≤ 4096 := by omega
    have hm1 : a1 ≤ 4096 := h1.2
    clear hk
    go_wp2
    clear hn1 hm1
    rw [rounds_succ]
    by_cases hk : a2 < 0
    · have HN : Hid (chkN c a0 a1 a2 a3 a4 a5 = 8) := Lib.hid (chkN_bad (fun h => by have := h.2.2.2.1; omega))
      go_wp2
      go_ret
      exact ⟨ret_int HN.out.symm, by (repeat (first | (with_reducible exact Below.refl _ _) | ((with_reducible refine below_alloc ?_ ?_ _); · (first | omega | (simp; done) | (simp; omega))) | ((with_reducible refine below_setCell ?_ ?_ _); · (first | omega | (simp; done) | (simp; omega))) | (with_reducible refine Below.drew ?_) | (with_reducible refine below_drewN ?_ _) | ((with_reducible refine below_call (by assumption) ?_ ?_); · (first | omega | (simp; done) | (simp; omega)))))⟩
    have hn2 : 0 ≤ a2 := by omega
    clear hk
    by_cases hk : 4096 < a2
    · have HN : Hid (chkN c a0 a1 a2 a3 a4 a5 = 8) := Lib.hid (chkN_bad (fun h => by have := h.2.2.2.1; omega))
      have hnn : 0 ≤ a2 := hn2
      go_wp2
      go_ret
      exact ⟨ret_int HN.out.symm, by (repeat (first | (with_reducible exact Below.refl _ _) | ((with_reducible refine below_alloc ?_ ?_ _); · (first | omega | (simp; done) | (simp; omega))) | ((with_reducible refine below_setCell ?_ ?_ _); · (first | omega | (simp; done) | (simp; omega))) | (with_reducible refine Below.drew ?_) | (with_reducible refine below_drewN ?_ _) | ((with_reducible refine below_call (by assumption) ?_ ?_); · (first | omega | (simp; done) | (simp; omega)))))⟩
    have h2 : 0 ≤ a2 ∧ a2 ≤ 4096 := by omega
    have hm2 : a2 ≤ 4096 := h2.2
    clear hk
    go_wp2
    clear hn2 hm2
    rw [rounds_succ]
    by_cases hk : a3 < 0
    · have HN : Hid (chkN c a0 a1 a2 a3 a4 a5 = 8) := Lib.hid (chkN_bad (fun h => by have := h.2.2.2.2.1; omega))
      go_wp2
      go_ret
      exact ⟨ret_int HN.out.symm, by (repeat (first | (with_reducible exact Below.refl _ _) | ((with_reducible refine below_alloc ?_ ?_ _); · (first | omega | (simp; done) | (simp; omega))) | ((with_reducible refine below_setCell ?_ ?_ _); · (first | omega | (simp; done) | (simp; omega))) | (with_reducible refine Below.drew ?_) | (with_reducible refine below_drewN ?_ _) | ((with_reducible refine below_call (by assumption) ?_ ?_); · (first | omega | (simp; done) | (simp; omega)))))⟩
    have hn3 : 0 ≤ a3 := by omega
    clear hk
    by_cases hk : 4096 < a3
    · have HN : Hid (chkN c a0 a1 a2 a3 a4 a5 = 8) := Lib.hid (chkN_bad (fun h => by have := h.2.2.2.2.1; omega))
      have hnn : 0 ≤ a3 := hn3
      go_wp2
      go_ret
      exact ⟨ret_int HN.out.symm, by (repeat (first | (with_reducible exact Below.refl _ _) | ((with_reducible refine below_alloc ?_ ?_ _); · (first | omega | (simp; done) | (simp; omega))) | ((with_reducible refine below_setCell ?_ ?_ _); · (first | omega | (simp; done) | (simp; omega))) | (with_reducible refine Below.drew ?_) | (with_reducible refine below_drewN ?_ _) | ((with_reducible refine below_call (by assumption) ?_ ?_); · (first | omega | (simp; done) | (simp; omega)))))⟩
    have h3 : 0 ≤ a3 ∧ a3 ≤ 4096 := by omega
    have hm3 : a3 ≤ 4096 := h3.2
    clear hk
    go_wp2
    clear hn3 hm3
    rw [rounds_succ]
    by_cases hk : a4 < 0
    · have HN : Hid (chkN c a0 a1 a2 a3 a4 a5 = 8) := Lib.hid (chkN_bad (fun h => by have := h.2.2.2.2.2.1; omega))
      go_wp2
      go_ret
      exact ⟨ret_int HN.out.symm, by (repeat (first | (with_reducible exact Below.refl _ _) | ((with_reducible refine below_alloc ?_ ?_ _); · (first | omega | (simp; done) | (simp; omega))) | ((with_reducible refine below_setCell ?_ ?_ _); · (first | omega | (simp; done) | (simp; omega))) | (with_reducible refine Below.drew ?_) | (with_reducible refine below_drewN ?_ _) | ((with_reducible refine below_call (by assumption) ?_ ?_); · (first | omega | (simp; done) | (simp; omega)))))⟩
    have hn4 : 0 ≤ a4 := by omega
    clear hk
    by_cases hk : 4096 < a4
    · have HN : Hid (chkN c a0 a1 a2 a3 a4 a5 = 8) := Lib.hid (chkN_bad (fun h => by have := h.2.2.2.2.2.1; omega))
      have hnn : 0 ≤ a4 := hn4
      go_wp2
      go_ret
      exact ⟨ret_int HN.out.symm, by (repeat (first | (with_reducible exact Below.refl _ _) | ((with_reducible refine below_alloc ?_ ?_ _); · (first | omega | (simp; done) | (simp; omega))) | ((with_reducible refine below_setCell ?_ ?_ _); · (first | omega | (simp; done) | (simp; omega))) | (with_reducible refine Below.drew ?_) | (with_reducible refine below_drewN ?_ _) | ((with_reducible refine below_call (by assumption) ?_ ?_); · (first | omega | (simp; done) | (simp; omega)))))⟩
    have h4 : 0 ≤ a4 ∧ a4 ≤ 4096 := by omega
    have hm4 : a4 ≤ 4096 := h4.2
    clear hk
    go_wp2
    clear hn4 hm4
    rw [rounds_succ]
    by_cases hk : a5 < 0
    · have HN : Hid (chkN c a0 a1 a2 a3 a4 a5 = 8) := Lib.hid (chkN_bad (fun h => by have := h.2.2.2.2.2.2; omega))
      go_wp2
      go_ret
      exact ⟨ret_int HN.out.symm, by (repeat (first | (with_reducible exact Below.refl _ _) | ((with_reducible refine below_alloc ?_ ?_ _); · (first | omega | (simp; done) | (simp; omega))) | ((with_reducible refine below_setCell ?_ ?_ _); · (first | omega | (simp; done) | (simp; omega))) | (with_reducible refine Below.drew ?_) | (with_reducible refine below_drewN ?_ _) | ((with_reducible refine below_call (by assumption) ?_ ?_); · (first | omega | (simp; done) | (simp; omega)))))⟩
    have hn5 : 0 ≤ a5 := by omega
    clear hk
    by_cases hk : 4096 < a5
    · have HN : Hid (chkN c a0 a1 a2 a3 a4 a5 = 8) := Lib.hid (chkN_bad (fun h => by have := h.2.2.2.2.2.2; omega))
      have hnn : 0 ≤ a5 := hn5
      go_wp2
      go_ret
      exact ⟨ret_int HN.out.symm, by (repeat (first | (with_reducible exact Below.refl _ _) | ((with_reducible refine below_alloc ?_ ?_ _); · (first | omega | (simp; done) | (simp; omega))) | ((with_reducible refine below_setCell ?_ ?_ _); · (first | omega | (simp; done) | (simp; omega))) | (with_reducible refine Below.drew ?_) | (with_reducible refine below_drewN ?_ _) | ((with_reducible refine below_call (by assumption) ?_ ?_); · (first | omega | (simp; done) | (simp; omega)))))⟩
    have h5 : 0 ≤ a5 ∧ a5 ≤ 4096 := by omega
    have hm5 : a5 ≤ 4096 := h5.2
    clear hk
    go_wp2
    clear hn5 hm5
    rw [rounds_succ]
    go_wp2_with fail
    have hs : Smal 4096 a0 a1 a2 a3 a4 a5 := ⟨h0, h1, h2, h3, h4, h5⟩
    have hs' := Lib.hid hs.wide
    have HN := Lib.hid (chkN_ok hc hs)
    clear hs h0 h1 h2 h3 h4 h5
    refine gen_world (F := fun wt => Bx7 wt w.heap.size c a0 a1 a2 a3 a4 a5 ∧ Below w.heap.size w wt) ⟨by simp [Bx7, go_sem], by (repeat (first | (with_reducible exact Below.refl _ _) | ((with_reducible refine below_alloc ?_ ?_ _); · (first | omega | (simp; done) | (simp; omega))) | ((with_reducible refine below_setCell ?_ ?_ _); · (first | omega | (simp; done) | (simp; omega))) | (with_reducible refine Below.drew ?_) | (with_reducible refine below_drewN ?_ _) | ((with_reducible refine below_call (by assumption) ?_ ?_); · (first | omega | (simp; done) | (simp; omega)))))⟩ (fun wt hF => ?_)
    obtain ⟨X, hB⟩ := hF
    have hout : ∀ w', Below wt.heap.size wt w' → (w'.cell? ⟨w.heap.size, 0, none⟩ = some (.int .i64 c) ∧ w'.cell? ⟨w.heap.size, 1, none⟩ = some (.int .i64 a0) ∧ w'.cell? ⟨w.heap.size, 2, none⟩ = some (.int .i64 a1) ∧ w'.cell? ⟨w.heap.size, 3, none⟩ = some (.int .i64 a2) ∧ w'.cell? ⟨w.heap.size, 4, none⟩ = some (.int .i64 a3) ∧ w'.cell? ⟨w.heap.size, 5, none⟩ = some (.int .i64 a4) ∧ w'.cell? ⟨w.heap.size, 6, none⟩ = some (.int .i64 a5)) := fun w' h => X.call h
    have hT : Below wt.heap.size wt wt.drew := Below.drew (Below.refl _ _)
    clear X
    go_wp2
    refine wp_region_held_drew (S := fun w' => w'.cell? ⟨w.heap.size, 0, none⟩ = some (.int .i64 c) ∧ w'.cell? ⟨w.heap.size, 1, none⟩ = some (.int .i64 a0) ∧ w'.cell? ⟨w.heap.size, 2, none⟩ = some (.int .i64 a1) ∧ w'.cell? ⟨w.heap.size, 3, none⟩ = some (.int .i64 a2) ∧ w'.cell? ⟨w.heap.size, 4, none⟩ = some (.int .i64 a3) ∧ w'.cell? ⟨w.heap.size, 5, none⟩ = some (.int .i64 a4) ∧ w'.cell? ⟨w.heap.size, 6, none⟩ = some (.int .i64 a5)) (by kernel_rfl) (hout _ (by assumption)) (fun hHeld => ?_)
    (refine wpAnyH_take (i := 0) (v := ?_) rfl (by kernel_rfl) (by kernel_rfl) (by kernel_rfl) (fun _ _ _ h => h) (Or.inl ⟨by rfl, ?_⟩) (by assumption) ?_; rotate_left 1; (focus (intro wz hz; (try dsimp only at hz); (try simp only [List.getElem_toArray, List.getElem_cons_succ, List.getElem_cons_zero]); go_simp; try (with_reducible rfl); done)))
    try simp only [Act.put, List.getElem_toArray, List.getElem_cons_succ, List.getElem_cons_zero, List.setIfInBounds_toArray, List.set_cons_zero, List.set_cons_succ]
    (refine wpAnyH_take (i := 2) (v := ?_) rfl (by kernel_rfl) (by kernel_rfl) (by kernel_rfl) (fun _ _ _ h => h) (Or.inl ⟨by rfl, ?_⟩) (by assumption) ?_; rotate_left 1; (focus (intro wz hz; (try dsimp only at hz); (try simp only [List.getElem_toArray, List.getElem_cons_succ, List.getElem_cons_zero]); go_simp; try (with_reducible rfl); done)))
    try simp only [Act.put, List.getElem_toArray, List.getElem_cons_succ, List.getElem_cons_zero, List.setIfInBounds_toArray, List.set_cons_zero, List.set_cons_succ]
    (refine wpAnyH_take (i := 3) (v := ?_) rfl (by kernel_rfl) (by kernel_rfl) (by kernel_rfl) (fun _ _ _ h => h) (Or.inl ⟨by rfl, ?_⟩) (by assumption) ?_; rotate_left 1; (focus (intro wz hz; (try dsimp only at hz); (try simp only [List.getElem_toArray, List.getElem_cons_succ, List.getElem_cons_zero]); go_simp; try (with_reducible rfl); done)))
    try simp only [Act.put, List.getElem_toArray, List.getElem_cons_succ, List.getElem_cons_zero, List.setIfInBounds_toArray, List.set_cons_zero, List.set_cons_succ]
    (refine wpAnyH_ready (rs := [1]) (by kernel_rfl) (by simp) ?_; refine AllReadyH.cons rfl (fun K hK => ?_) AllReadyH.nil; (try simp only [List.getElem_toArray, List.getElem_cons_succ, List.getElem_cons_zero]); go_simp; go_at_call 31; refine (charged_any c a0 a1 a2 a3 a4 a5 _ hs'.out).mono ?_; rintro e wn1 ⟨rfl, hbn1⟩; have hT1 : Below wt.heap.size wt wn1 := hT.trans (hbn1.mono (Nat.le_refl _)); (try (go_wp2_with fail)); refine hK.out _ _ (hout _ (by assumption)) (fun hHeld => ?_); clear hK K)
    try simp only [Act.put, List.getElem_toArray, List.getElem_cons_succ, List.getElem_cons_zero, List.setIfInBounds_toArray, List.set_cons_zero, List.set_cons_succ]
    (refine wpAnyH_take (i := 4) (v := ?_) rfl (by kernel_rfl) (by kernel_rfl) (by kernel_rfl) (fun _ _ _ h => h) (Or.inl ⟨by rfl, ?_⟩) (by assumption) ?_; rotate_left 1; (focus (intro wz hz; (try dsimp only at hz); (try simp only [List.getElem_toArray, List.getElem_cons_succ, List.getElem_cons_zero]); go_simp; try (with_reducible rfl); done)))
    try simp only [Act.put, List.getElem_toArray, List.getElem_cons_succ, List.getElem_cons_zero, List.setIfInBounds_toArray, List.set_cons_zero, List.set_cons_succ]
    refine wpAnyH_done (by kernel_rfl) ?_ _
    clear hHeld
    by_cases hgt : c < sumN a0 a1 a2 a3 a4 a5
    · rw [if_pos hgt] at HN
      go_wp2
      go_ret
      exact ⟨ret_int HN.out.symm, below_call hT1 hB.size hB⟩
    · rw [if_neg hgt] at HN
      have hle : sumN a0 a1 a2 a3 a4 a5 ≤ c := by omega
      go_wp2
      go_ret
      exact ⟨ret_int HN.out.symm, below_call hT1 hB.size hB⟩
set_option maxRecDepth 100000 in
set_option maxHeartbeats 4000000 in
theorem checkD_any (c a0 a1 a2 a3 a4 a5 : Int) (w : World) :
    Calls Try.prog 19 #[stV c a0 a1 a2 a3 a4 a5] w fun e w' => e = .returned (.int .i64 (chkN c a0 a1 a2 a3 a4 a5)) ∧ Below w.heap.size w w' := by
  have cc : ∀ W, Calls Try.prog 30 #[.int .i64 c, .int .i64 1, .int .i64 4096] W fun e w' => e = .returned (.bool (capB c)) ∧ w' = W := fun W => in_any c 1 4096 W
  have d0 := fun W => in_any a0 0 4096 W
  have d1 := fun W => in_any a1 0 4096 W
  have d2 := fun W => in_any a2 0 4096 W
  have d3 := fun W => in_any a3 0 4096 W
  have d4 := fun W => in_any a4 0 4096 W
  have d5 := fun W => in_any a5 0 4096 W
  simp only [stV] at *
  cases hc : capB c with
  | false =>
    have HN : Hid (chkN c a0 a1 a2 a3 a4 a5 = 8) := Lib.hid (chkN_bad (fun h => by rw [hc] at h; cases h.1))
    rw [hc] at cc
    go_enter Try.func19, Try.ntmps19
    go_wp2_with fail
    refine (cc _).mono ?_; rintro e w1 ⟨rfl, rfl⟩
    go_wp2_with fail
    refine wp_loop_rounds 7 ?_
    rw [rounds_succ]
    go_wp2_with fail
    rw [rounds_succ]
    go_wp2_with fail
    rw [rounds_succ]
    go_wp2_with fail
    rw [rounds_succ]
    go_wp2_with fail
    rw [rounds_succ]
    go_wp2_with fail
    rw [rounds_succ]
    go_wp2_with fail
    rw [rounds_succ]
    go_wp2_with fail
    go_wp2
    go_ret
    exact ⟨ret_int HN.out.symm, by (repeat (first | (with_reducible exact Below.refl _ _) | ((with_reducible refine below_alloc ?_ ?_ _); · (first | omega | (simp; done) | (simp; omega))) | ((with_reducible refine below_setCell ?_ ?_ _); · (first | omega | (simp; done) | (simp; omega))) | (with_reducible refine Below.drew ?_) | (with_reducible refine below_drewN ?_ _) | ((with_reducible refine below_call (by assumption) ?_ ?_); · (first | omega | (simp; done) | (simp; omega)))))⟩
  | true =>
    rw [hc] at cc
    go_enter Try.func19, Try.ntmps19
    go_wp2_with fail
    refine (cc _).mono ?_; rintro e w1 ⟨rfl, rfl⟩
    go_wp2_with fail
    refine wp_loop_rounds 7 ?_
    rw [rounds_succ]
    cases hk : inB a0 0 4096 with
    | false =>
      have HN : Hid (chkN c a0 a1 a2 a3 a4 a5 = 8) := Lib.hid (chkN_bad (fun h => by rw [inB_iff.2 h.2.1] at hk; cases hk))
      go_wp2_with fail
      refine (d0 _).mono ?_; rintro e w1 ⟨rfl, rfl⟩
      rw [hk]
      clear hk
      go_wp2_with fail
      rw [rounds_succ]
      go_wp2_with fail
      rw [rounds_succ]
      go_wp2_with fail
      rw [rounds_succ]
      go_wp2_with fail
      rw [rounds_succ]
      go_wp2_with fail
      rw [rounds_succ]
      go_wp2_with fail
      rw [rounds_succ]
      go_wp2_with fail
      go_wp2
      go_ret
      exact ⟨ret_int HN.out.symm, by (repeat (first | (with_reducible exact Below.refl _ _) | ((with_reducible refine below_alloc ?_ ?_ _); · (first | omega | (simp; done) | (simp; omega))) | ((with_reducible refine below_setCell ?_ ?_ _); · (first | omega | (simp; done) | (simp; omega))) | (with_reducible refine Below.drew ?_) | (with_reducible refine below_drewN ?_ _) | ((with_reducible refine below_call (by assumption) ?_ ?_); · (first | omega | (simp; done) | (simp; omega)))))⟩
    | true =>
      have h0 := inB_iff.1 hk
      go_wp2_with fail
      refine (d0 _).mono ?_; rintro e w1 ⟨rfl, rfl⟩
      rw [hk]
      clear hk
      go_wp2_with fail
      rw [rounds_succ]
      cases hk : inB a1 0 4096 with
      | false =>
        have HN : Hid (chkN c a0 a1 a2 a3 a4 a5 = 8) := Lib.hid (chkN_bad (fun h => by rw [inB_iff.2 h.2.2.1] at hk; cases hk))
        go_wp2_with fail
        refine (d1 _).mono ?_; rintro e w1 ⟨rfl, rfl⟩
        rw [hk]
        clear hk
        go_wp2_with fail
        rw [rounds_succ]
        go_wp2_with fail
        rw [rounds_succ]
        go_wp2_with fail
        rw [rounds_succ]
        go_wp2_with fail
        rw [rounds_succ]
        go_wp2_with fail
        rw [rounds_succ]
        go_wp2_with fail
        go_wp2
        go_ret
        exact ⟨ret_int HN.out.symm, by (repeat (first | (with_reducible exact Below.refl _ _) | ((with_reducible refine below_alloc ?_ ?_ _); · (first | omega | (simp; done) | (simp; omega))) | ((with_reducible refine below_setCell ?_ ?_ _); · (first | omega | (simp; done) | (simp; omega))) | (with_reducible refine Below.drew ?_) | (with_reducible refine below_drewN ?_ _) | ((with_reducible refine below_call (by assumption) ?_ ?_); · (first | omega | (simp; done) | (simp; omega)))))⟩
      | true =>
        have h1 := inB_iff.1 hk
        go_wp2_with fail
        refine (d1 _).mono ?_; rintro e w1 ⟨rfl, rfl⟩
        rw [hk]
        clear hk
        go_wp2_with fail
        rw [rounds_succ]
        cases hk : inB a2 0 4096 with
        | false =>
          have HN : Hid (chkN c a0 a1 a2 a3 a4 a5 = 8) := Lib.hid (chkN_bad (fun h => by rw [inB_iff.2 h.2.2.2.1] at hk; cases hk))
          go_wp2_with fail
          refine (d2 _).mono ?_; rintro e w1 ⟨rfl, rfl⟩
          rw [hk]
          clear hk
          go_wp2_with fail
          rw [rounds_succ]
          go_wp2_with fail
          rw [rounds_succ]
          go_wp2_with fail
          rw [rounds_succ]
          go_wp2_with fail
          rw [rounds_succ]
          go_wp2_with fail
          go_wp2
          go_ret
          exact ⟨ret_int HN.out.symm, by (repeat (first | (with_reducible exact Below.refl _ _) | ((with_reducible refine below_alloc ?_ ?_ _); · (first | omega | (simp; done) | (simp; omega))) | ((with_reducible refine below_setCell ?_ ?_ _); · (first | omega | (simp; done) | (simp; omega))) | (with_reducible refine Below.drew ?_) | (with_reducible refine below_drewN ?_ _) | ((with_reducible refine below_call (by assumption) ?_ ?_); · (first | omega | (simp; done) | (simp; omega)))))⟩
        | true =>
          have h2 := inB_iff.1 hk
          go_wp2_with fail
          refine (d2 _).mono ?_; rintro e w1 ⟨rfl, rfl⟩
          rw [hk]
          clear hk
          go_wp2_with fail
          rw [rounds_succ]
          cases hk : inB a3 0 4096 with
          | false =>
            have HN : Hid (chkN c a0 a1 a2 a3 a4 a5 = 8) := Lib.hid (chkN_bad (fun h => by rw [inB_iff.2 h.2.2.2.2.1] at hk; cases hk))
            go_wp2_with fail
            refine (d3 _).mono ?_; rintro e w1 ⟨rfl, rfl⟩
            rw [hk]
            clear hk
            go_wp2_with fail
            rw [rounds_succ]
            go_wp2_with fail
            rw [rounds_succ]
            go_wp2_with fail
            rw [rounds_succ]
            go_wp2_with fail
            go_wp2
            go_ret
            exact ⟨ret_int HN.out.symm, by (repeat (first | (with_reducible exact Below.refl _ _) | ((with_reducible refine below_alloc ?_ ?_ _); · (first | omega | (simp; done) | (simp; omega))) | ((with_reducible refine below_setCell ?_ ?_ _); · (first | omega | (simp; done) | (simp; omega))) | (with_reducible refine Below.drew ?_) | (with_reducible refine below_drewN ?_ _) | ((with_reducible refine below_call (by assumption) ?_ ?_); · (first | omega | (simp; done) | (simp; omega)))))⟩
          | true =>
            have h3 := inB_iff.1 hk
            go_wp2_with fail
            refine (d3 _).mono ?_; rintro e w1 ⟨rfl, rfl⟩
            rw [hk]
            clear hk
            go_wp2_with fail
            rw [rounds_succ]
            cases hk : inB a4 0 4096 with
            | false =>
              have HN : Hid (chkN c a0 a1 a2 a3 a4 a5 = 8) := Lib.hid (chkN_bad (fun h => by rw [inB_iff.2 h.2.2.2.2.2.1] at hk; cases hk))
              go_wp2_with fail
              refine (d4 _).mono ?_; rintro e w1 ⟨rfl, rfl⟩
              rw [hk]
              clear hk
              go_wp2_with fail
              rw [rounds_succ]
              go_wp2_with fail
              rw [rounds_succ]
              go_wp2_with fail
              go_wp2
              go_ret
              exact ⟨ret_int HN.out.symm, by (repeat (first | (with_reducible exact Below.refl _ _) | ((with_reducible refine below_alloc ?_ ?_ _); · (first | omega | (simp; done) | (simp; omega))) | ((with_reducible refine below_setCell ?_ ?_ _); · (first | omega | (simp; done) | (simp; omega))) | (with_reducible refine Below.drew ?_) | (with_reducible refine below_drewN ?_ _) | ((with_reducible refine below_call (by assumption) ?_ ?_); · (first | omega | (simp; done) | (simp; omega)))))⟩
            | true =>
              have h4 := inB_iff.1 hk
              go_wp2_with fail
              refine (d4 _).mono ?_; rintro e w1 ⟨rfl, rfl⟩
              rw [hk]
              clear hk
              go_wp2_with fail
              rw [rounds_succ]
              cases hk : inB a5 0 4096 with
              | false =>
                have HN : Hid (chkN c a0 a1 a2 a3 a4 a5 = 8) := Lib.hid (chkN_bad (fun h => by rw [inB_iff.2 h.2.2.2.2.2.2] at hk; cases hk))
                go_wp2_with fail
                refine (d5 _).mono ?_; rintro e w1 ⟨rfl, rfl⟩
                rw [hk]
                clear hk
                go_wp2_with fail
                rw [rounds_succ]
                go_wp2_with fail
                go_wp2
                go_ret
                exact ⟨ret_int HN.out.symm, by (repeat (first | (with_reducible exact Below.refl _ _) | ((with_reducible refine below_alloc ?_ ?_ _); · (first | omega | (simp; done) | (simp; omega))) | ((with_reducible refine below_setCell ?_ ?_ _); · (first | omega | (simp; done) | (simp; omega))) | (with_reducible refine Below.drew ?_) | (with_reducible refine below_drewN ?_ _) | ((with_reducible refine below_call (by assumption) ?_ ?_); · (first | omega | (simp; done) | (simp; omega)))))⟩
              | true =>
                have h5 := inB_iff.1 hk
                go_wp2_with fail
                refine (d5 _).mono ?_; rintro e w1 ⟨rfl, rfl⟩
                rw [hk]
                clear hk
                go_wp2_with fail
                rw [rounds_succ]
                go_wp2_with fail
                have hs : Smal 4096 a0 a1 a2 a3 a4 a5 := ⟨h0, h1, h2, h3, h4, h5⟩
                have hs' := Lib.hid hs.wide
                have HN := Lib.hid (chkN_ok hc hs)
                clear hs h0 h1 h2 h3 h4 h5
                refine gen_world (F := fun wt => Bx7 wt w.heap.size c a0 a1 a2 a3 a4 a5 ∧ Below w.heap.size w wt) ⟨by simp [Bx7, go_sem], by (repeat (first | (with_reducible exact Below.refl _ _) | ((with_reducible refine below_alloc ?_ ?_ _); · (first | omega | (simp; done) | (simp; omega))) | ((with_reducible refine below_setCell ?_ ?_ _); · (first | omega | (simp; done) | (simp; omega))) | (with_reducible refine Below.drew ?_) | (with_reducible refine below_drewN ?_ _) | ((with_reducible refine below_call (by assumption) ?_ ?_); · (first | omega | (simp; done) | (simp; omega)))))⟩ (fun wt hF => ?_)
                obtain ⟨X, hB⟩ := hF
                have hout : ∀ w', Below wt.heap.size wt w' → (w'.cell? ⟨w.heap.size, 0, none⟩ = some (.int .i64 c) ∧ w'.cell? ⟨w.heap.size, 1, none⟩ = some (.int .i64 a0) ∧ w'.cell? ⟨w.heap.size, 2, none⟩ = some (.int .i64 a1) ∧ w'.cell? ⟨w.heap.size, 3, none⟩ = some (.int .i64 a2) ∧ w'.cell? ⟨w.heap.size, 4, none⟩ = some (.int .i64 a3) ∧ w'.cell? ⟨w.heap.size, 5, none⟩ = some (.int .i64 a4) ∧ w'.cell? ⟨w.heap.size, 6, none⟩ = some (.int .i64 a5)) := fun w' h => X.call h
                have hT : Below wt.heap.size wt wt.drew := Below.drew (Below.refl _ _)
                clear X
                go_wp2
                refine wp_region_held_drew (S := fun w' => w'.cell? ⟨w.heap.size, 0, none⟩ = some (.int .i64 c) ∧ w'.cell? ⟨w.heap.size, 1, none⟩ = some (.int .i64 a0) ∧ w'.cell? ⟨w.heap.size, 2, none⟩ = some (.int .i64 a1) ∧ w'.cell? ⟨w.heap.size, 3, none⟩ = some (.int .i64 a2) ∧ w'.cell? ⟨w.heap.size, 4, none⟩ = some (.int .i64 a3) ∧ w'.cell? ⟨w.heap.size, 5, none⟩ = some (.int .i64 a4) ∧ w'.cell? ⟨w.heap.size, 6, none⟩ = some (.int .i64 a5)) (by kernel_rfl) (hout _ (by assumption)) (fun hHeld => ?_)
                (refine wpAnyH_take (i := 0) (v := ?_) rfl (by kernel_rfl) (by kernel_rfl) (by kernel_rfl) (fun _ _ _ h => h) (Or.inl ⟨by rfl, ?_⟩) (by assumption) ?_; rotate_left 1; (focus (intro wz hz; (try dsimp only at hz); (try simp only [List.getElem_toArray, List.getElem_cons_succ, List.getElem_cons_zero]); go_simp; try (with_reducible rfl); done)))
                try simp only [Act.put, List.getElem_toArray, List.getElem_cons_succ, List.getElem_cons_zero, List.setIfInBounds_toArray, List.set_cons_zero, List.set_cons_succ]
                (refine wpAnyH_take (i := 2) (v := ?_) rfl (by kernel_rfl) (by kernel_rfl) (by kernel_rfl) (fun _ _ _ h => h) (Or.inl ⟨by rfl, ?_⟩) (by assumption) ?_; rotate_left 1; (focus (intro wz hz; (try dsimp only at hz); (try simp only [List.getElem_toArray, List.getElem_cons_succ, List.getElem_cons_zero]); go_simp; try (with_reducible rfl); done)))
                try simp only [Act.put, List.getElem_toArray, List.getElem_cons_succ, List.getElem_cons_zero, List.setIfInBounds_toArray, List.set_cons_zero, List.set_cons_succ]
                (refine wpAnyH_take (i := 3) (v := ?_) rfl (by kernel_rfl) (by kernel_rfl) (by kernel_rfl) (fun _ _ _ h => h) (Or.inl ⟨by rfl, ?_⟩) (by assumption) ?_; rotate_left 1; (focus (intro wz hz; (try dsimp only at hz); (try simp only [List.getElem_toArray, List.getElem_cons_succ, List.getElem_cons_zero]); go_simp; try (with_reducible rfl); done)))
                try simp only [Act.put, List.getElem_toArray, List.getElem_cons_succ, List.getElem_cons_zero, List.setIfInBounds_toArray, List.set_cons_zero, List.set_cons_succ]
                (refine wpAnyH_ready (rs := [1]) (by kernel_rfl) (by simp) ?_; refine AllReadyH.cons rfl (fun K hK => ?_) AllReadyH.nil; (try simp only [List.getElem_toArray, List.getElem_cons_succ, List.getElem_cons_zero]); go_simp; go_at_call 32; refine (total_any c a0 a1 a2 a3 a4 a5 _ hs'.out).mono ?_; rintro e wn1 ⟨rfl, hbn1⟩; have hT1 : Below wt.heap.size wt wn1 := hT.trans (hbn1.mono (Nat.le_refl _)); (try (go_wp2_with fail)); refine hK.out _ _ (hout _ (by assumption)) (fun hHeld => ?_); clear hK K)
                try simp only [Act.put, List.getElem_toArray, List.getElem_cons_succ, List.getElem_cons_zero, List.setIfInBounds_toArray, List.set_cons_zero, List.set_cons_succ]
                (refine wpAnyH_take (i := 4) (v := ?_) rfl (by kernel_rfl) (by kernel_rfl) (by kernel_rfl) (fun _ _ _ h => h) (Or.inl ⟨by rfl, ?_⟩) (by assumption) ?_; rotate_left 1; (focus (intro wz hz; (try dsimp only at hz); (try simp only [List.getElem_toArray, List.getElem_cons_succ, List.getElem_cons_zero]); go_simp; try (with_reducible rfl); done)))
                try simp only [Act.put, List.getElem_toArray, List.getElem_cons_succ, List.getElem_cons_zero, List.setIfInBounds_toArray, List.set_cons_zero, List.set_cons_succ]
                (refine wpAnyH_take (i := 5) (v := ?_) rfl (by kernel_rfl) (by kernel_rfl) (by kernel_rfl) (fun _ _ _ h => h) (Or.inl ⟨by rfl, ?_⟩) (by assumption) ?_; rotate_left 1; (focus (intro wz hz; (try dsimp only at hz); (try simp only [List.getElem_toArray, List.getElem_cons_succ, List.getElem_cons_zero]); go_simp; try (with_reducible rfl); done)))
                try simp only [Act.put, List.getElem_toArray, List.getElem_cons_succ, List.getElem_cons_zero, List.setIfInBounds_toArray, List.set_cons_zero, List.set_cons_succ]
                refine wpAnyH_done (by kernel_rfl) ?_ _
                clear hHeld
                by_cases hgt : c < sumN a0 a1 a2 a3 a4 a5
                · rw [if_pos hgt] at HN
                  go_wp2
                  go_ret
                  exact ⟨ret_int HN.out.symm, below_call hT1 hB.size hB⟩
                · rw [if_neg hgt] at HN
                  have hle : sumN a0 a1 a2 a3 a4 a5 ≤ c := by omega
                  go_wp2
                  go_ret
                  exact ⟨ret_int HN.out.symm, below_call hT1 hB.size hB⟩
end Go.Proofs.Ytkohdfmhigejoaa
