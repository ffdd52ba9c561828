/- Layer 11, the program's: the first frame of bytes. -/
import Derived.Test.YtbaclfpkaobggaaR11E
namespace Go.Proofs.Ytbaclfpkaobggaa
open Go.RowKit
set_option linter.unusedVariables false
set_option linter.unusedSimpArgs false

theorem left2 {b : ByteArray} (h : 2 ≤ b.size) : leftN b 2 0 = (b.size : Int) - 2 := leftN_ok (by unfold chk; rw [if_neg (by omega)])
set_option maxRecDepth 100000 in
set_option maxHeartbeats 4000000 in
theorem fget_any (b : ByteArray) (w : World) (hs : b.size ≤ 1000000) :
    Calls Try.prog 8 #[.string b] w fun e w' => e = .returned (getV b.data.toList) ∧ Below w.heap.size w w' := by
  have hbl := list_sz b
  have cN := Lib.hid (fun W => num_any b 0 0 2 W (by unfold maxLen; omega))
  have cO := Lib.hid (fun W => open_any b W)
  by_cases h2 : b.size < 2
  · have hE : gtE b.data.toList = 3 := if_pos (by omega)
    have hV : Hid (getV b.data.toList = .tuple #[.string ⟨#[]⟩, .int .i64 0, .int .i64 3]) := Lib.hid (by simp [getV, gtS, gtN, hE])
    rw [num2_cut h2] at cN
    clear hE h2 hbl
    go_enter Try.func8, Try.ntmps8
    go_wp2_with fail
    refine (cO.out _).mono ?_; rintro e w1 ⟨rfl, hb1⟩
    go_wp2_with fail
    refine (cN.out _).mono ?_; rintro e w2 ⟨rfl, hb2⟩
    have B2 : Below w.heap.size w w2 := hb1.trans (hb2.mono hb1.size)
    have z2 := B2.size
    go_wp2
    refine wp_region_held_drew (S := fun W => W.cell? ⟨w2.heap.size, 2, none⟩ = some (.int .i64 3)) (by kernel_rfl) (by simp [go_sem]) (fun hHeld => ?_)
    (refine wpAnyH_take (i := 0) (v := ?_) rfl (by kernel_rfl) (by kernel_rfl) (by kernel_rfl) (fun _ _ _ h => h) (Or.inl ⟨by rfl, ?_⟩) (by assumption) ?_; rotate_left 1; (focus (intro wz hz; (try dsimp only at hz); (try simp only [List.getElem_toArray, List.getElem_cons_succ, List.getElem_cons_zero]); go_simp; (try (rw [if_neg (by (try simp only [ByteArray.size_append]); omega)])); try (with_reducible rfl); done)))
    try simp only [Act.put, List.getElem_toArray, List.getElem_cons_succ, List.getElem_cons_zero, List.setIfInBounds_toArray, List.set_cons_zero, List.set_cons_succ]
    (refine wpAnyH_take (i := 2) (v := ?_) rfl (by kernel_rfl) (by kernel_rfl) (by kernel_rfl) (fun _ _ _ h => h) (Or.inl ⟨by rfl, ?_⟩) (by assumption) ?_; rotate_left 1; (focus (intro wz hz; (try dsimp only at hz); (try simp only [List.getElem_toArray, List.getElem_cons_succ, List.getElem_cons_zero]); go_simp; (try (rw [if_neg (by (try simp only [ByteArray.size_append]); omega)])); try (with_reducible rfl); done)))
    try simp only [Act.put, List.getElem_toArray, List.getElem_cons_succ, List.getElem_cons_zero, List.setIfInBounds_toArray, List.set_cons_zero, List.set_cons_succ]
    (refine wpAnyH_take (i := 1) (v := ?_) rfl (by kernel_rfl) (by kernel_rfl) (by kernel_rfl) (fun _ _ _ h => h) (Or.inl ⟨by rfl, ?_⟩) (by assumption) ?_; rotate_left 1; (focus (intro wz hz; (try dsimp only at hz); (try simp only [List.getElem_toArray, List.getElem_cons_succ, List.getElem_cons_zero]); go_simp; (try (rw [if_neg (by (try simp only [ByteArray.size_append]); omega)])); try (with_reducible rfl); done)))
    try simp only [Act.put, List.getElem_toArray, List.getElem_cons_succ, List.getElem_cons_zero, List.setIfInBounds_toArray, List.set_cons_zero, List.set_cons_succ]
    (refine wpAnyH_take (i := 3) (v := ?_) rfl (by kernel_rfl) (by kernel_rfl) (by kernel_rfl) (fun _ _ _ h => h) (Or.inl ⟨by rfl, ?_⟩) (by assumption) ?_; rotate_left 1; (focus (intro wz hz; (try dsimp only at hz); (try simp only [List.getElem_toArray, List.getElem_cons_succ, List.getElem_cons_zero]); go_simp; (try (rw [if_neg (by (try simp only [ByteArray.size_append]); omega)])); try (with_reducible rfl); done)))
    try simp only [Act.put, List.getElem_toArray, List.getElem_cons_succ, List.getElem_cons_zero, List.setIfInBounds_toArray, List.set_cons_zero, List.set_cons_succ]
    (refine wpAnyH_take (i := 4) (v := ?_) rfl (by kernel_rfl) (by kernel_rfl) (by kernel_rfl) (fun _ _ _ h => h) (Or.inl ⟨by rfl, ?_⟩) (by assumption) ?_; rotate_left 1; (focus (intro wz hz; (try dsimp only at hz); (try simp only [List.getElem_toArray, List.getElem_cons_succ, List.getElem_cons_zero]); go_simp; (try (rw [if_neg (by (try simp only [ByteArray.size_append]); omega)])); try (with_reducible rfl); done)))
    try simp only [Act.put, List.getElem_toArray, List.getElem_cons_succ, List.getElem_cons_zero, List.setIfInBounds_toArray, List.set_cons_zero, List.set_cons_succ]
    refine wpAnyH_done (by kernel_rfl) ?_ _
    go_wp2
    refine bodyPost_ret (v := .tuple #[.string ⟨#[]⟩, .int .i64 0, .int .i64 3]) (by simp [results, Try.results8, go_sem]) rfl ?_
    exact ⟨by rw [hV.out], by (repeat (first | (with_reducible exact Below.refl _ _) | ((with_reducible refine below_alloc ?_ ?_ _); · (first | omega | (simp; done) | (simp; omega))) | ((with_reducible refine below_setCell ?_ ?_ _); · (first | omega | (simp; done) | (simp; omega))) | (with_reducible refine Below.drew ?_) | (with_reducible refine below_drewN ?_ _) | ((with_reducible refine below_call (by assumption) ?_ ?_); · (first | omega | (simp; done) | (simp; omega)))))⟩
  have h2' : 2 ≤ b.size := by omega
  have hLf := left2 h2'
  rw [num2_ok h2'] at cN
  obtain ⟨n, hn⟩ : ∃ n : Nat, lenG b.data.toList = n := ⟨_, rfl⟩
  rw [hn] at cN
  have cL := Lib.hid (fun W => left_any b 2 0 W (by unfold maxLen; omega))
  rw [hLf] at cL
  have cC := Lib.hid (fun W => clen_any n W (by omega))
  have hE : Hid (gtE b.data.toList = if n = 0 then 4 else if 128 < n then 5 else if b.size - 2 < n then 3 else 0) := Lib.hid (by
    unfold gtE
    rw [hn, ← hbl, if_neg (by omega)])
  have hz : Hid (lnE n = if n = 0 then 4 else if 128 < n then 5 else 0) := Lib.hid (by
    unfold lnE
    by_cases n0 : n = 0
    · rw [if_pos (by omega), if_pos n0]
    · rw [if_neg (by omega), if_neg n0]
      by_cases n1 : 128 < n
      · rw [if_pos (by omega), if_pos n1]
      · rw [if_neg (by omega), if_neg n1])
  clear hLf hbl h2
  by_cases n0 : n = 0 ∨ 128 < n
  · have hZ : lnE n ≠ 0 ∧ gtE b.data.toList = lnE n := by
      rw [hE.out, hz.out]
      rcases n0 with n0 | n0
      · rw [if_pos n0, if_pos n0]
        exact ⟨by decide, rfl⟩
      · have : ¬ n = 0 := by omega
        rw [if_neg this, if_neg this, if_pos n0, if_pos n0]
        exact ⟨by decide, rfl⟩
    obtain ⟨z1, z2⟩ := hZ
    have e0 : (lnE n != 0) = true := by simpa using z1
    rw [← z2] at z1
    have hV : Hid (getV b.data.toList = .tuple #[.string ⟨#[]⟩, .int .i64 0, .int .i64 (lnE n)]) := Lib.hid (by simp only [getV, gtS, gtN, if_neg z1]; rw [z2]; rfl)
    generalize lnE n = E at cC e0 hV
    clear hE hz z1 z2 hn n0
    go_enter Try.func8, Try.ntmps8
    go_wp2_with fail
    refine (cO.out _).mono ?_; rintro e w1 ⟨rfl, hb1⟩
    go_wp2_with fail
    refine (cN.out _).mono ?_; rintro e w2 ⟨rfl, hb2⟩
    have B2 : Below w.heap.size w w2 := hb1.trans (hb2.mono hb1.size)
    have z2 := B2.size
    go_wp2_with fail
    refine (cC.out _).mono ?_; rintro e w3 ⟨rfl, hb3⟩
    have B3 : Below w.heap.size w w3 := by (repeat (first | (with_reducible exact Below.refl _ _) | ((with_reducible refine below_alloc ?_ ?_ _); · (first | omega | (simp; done) | (simp; omega))) | ((with_reducible refine below_setCell ?_ ?_ _); · (first | omega | (simp; done) | (simp; omega))) | (with_reducible refine Below.drew ?_) | (with_reducible refine below_drewN ?_ _) | ((with_reducible refine below_call (by assumption) ?_ ?_); · (first | omega | (simp; done) | (simp; omega)))))
    go_wp2
    refine bodyPost_ret (v := .tuple #[.string ⟨#[]⟩, .int .i64 0, .int .i64 E]) (by simp [results, Try.results8, go_sem]) rfl ?_
    exact ⟨by rw [hV.out], by (repeat (first | (with_reducible exact Below.refl _ _) | ((with_reducible refine below_alloc ?_ ?_ _); · (first | omega | (simp; done) | (simp; omega))) | ((with_reducible refine below_setCell ?_ ?_ _); · (first | omega | (simp; done) | (simp; omega))) | (with_reducible refine Below.drew ?_) | (with_reducible refine below_drewN ?_ _) | ((with_reducible refine below_call (by assumption) ?_ ?_); · (first | omega | (simp; done) | (simp; omega)))))⟩
  have n1 : ¬ n = 0 := fun h => n0 (.inl h)
  have n2 : ¬ 128 < n := fun h => n0 (.inr h)
  have hZ : lnE n = 0 := by rw [hz.out, if_neg n1, if_neg n2]
  have hE' := hE.out
  rw [if_neg n1, if_neg n2] at hE'
  rw [hZ] at cC
  clear hE hz n0 hZ
  by_cases n3 : b.size - 2 < n
  · rw [if_pos n3] at hE'
    have hV : Hid (getV b.data.toList = .tuple #[.string ⟨#[]⟩, .int .i64 0, .int .i64 3]) := Lib.hid (by simp [getV, gtS, gtN, hE'])
    have e2 : (b.size : Int) - 2 < n := by omega
    clear hE' hn
    go_enter Try.func8, Try.ntmps8
    go_wp2_with fail
    refine (cO.out _).mono ?_; rintro e w1 ⟨rfl, hb1⟩
    go_wp2_with fail
    refine (cN.out _).mono ?_; rintro e w2 ⟨rfl, hb2⟩
    have B2 : Below w.heap.size w w2 := hb1.trans (hb2.mono hb1.size)
    have z2 := B2.size
    go_wp2_with fail
    refine (cC.out _).mono ?_; rintro e w3 ⟨rfl, hb3⟩
    obtain ⟨hk3, hf3, hz3⟩ := bcellAt (b := w2.heap.size) (by simp) hb3
    have B3 : Below w.heap.size w w3 := by (repeat (first | (with_reducible exact Below.refl _ _) | ((with_reducible refine below_alloc ?_ ?_ _); · (first | omega | (simp; done) | (simp; omega))) | ((with_reducible refine below_setCell ?_ ?_ _); · (first | omega | (simp; done) | (simp; omega))) | (with_reducible refine Below.drew ?_) | (with_reducible refine below_drewN ?_ _) | ((with_reducible refine below_call (by assumption) ?_ ?_); · (first | omega | (simp; done) | (simp; omega)))))
    have z3 := B3.size
    go_wp2_with fail
    refine (cL.out _).mono ?_; rintro e w4 ⟨rfl, hb4⟩
    have B4 : Below w.heap.size w w4 := by (repeat (first | (with_reducible exact Below.refl _ _) | ((with_reducible refine below_alloc ?_ ?_ _); · (first | omega | (simp; done) | (simp; omega))) | ((with_reducible refine below_setCell ?_ ?_ _); · (first | omega | (simp; done) | (simp; omega))) | (with_reducible refine Below.drew ?_) | (with_reducible refine below_drewN ?_ _) | ((with_reducible refine below_call (by assumption) ?_ ?_); · (first | omega | (simp; done) | (simp; omega)))))
    go_wp2
    refine bodyPost_ret (v := .tuple #[.string ⟨#[]⟩, .int .i64 0, .int .i64 3]) (by simp [results, Try.results8, go_sem]) rfl ?_
    exact ⟨by rw [hV.out], by (repeat (first | (with_reducible exact Below.refl _ _) | ((with_reducible refine below_alloc ?_ ?_ _); · (first | omega | (simp; done) | (simp; omega))) | ((with_reducible refine below_setCell ?_ ?_ _); · (first | omega | (simp; done) | (simp; omega))) | (with_reducible refine Below.drew ?_) | (with_reducible refine below_drewN ?_ _) | ((with_reducible refine below_call (by assumption) ?_ ?_); · (first | omega | (simp; done) | (simp; omega)))))⟩
  rw [if_neg n3] at hE'
  have hS := gtS_ext hE'
  have hN : gtN b.data.toList = 2 + lenG b.data.toList := if_pos hE'
  rw [hn] at hS hN
  have hV : Hid (getV b.data.toList = .tuple #[.string (b.extract 2 (2 + n)), .int .i64 (2 + (n : Int)), .int .i64 0]) := Lib.hid (by simp only [getV, hS, hN, hE']; rw [show ((2 + n : Nat) : Int) = 2 + (n : Int) by omega])
  have cK := Lib.hid (fun W => clone_any (b.extract 2 (2 + n)) W (by simp; omega))
  have e2 : ¬ (b.size : Int) - 2 < n := by omega
  have w6 : IntKind.i64.wrap (2 + (n : Int)) = 2 + n := IntWalk.i64_in _ (by omega)
  have e3 : (2 : Int) + n ≤ b.size := by omega
  have e4 : (0 : Int) ≤ 2 + n := by omega
  have e5 : (2 : Int) ≤ 2 + n := by omega
  have e6 : ((2 : Int) + (n : Int)).toNat = 2 + n := by omega
  clear hE' hS hN n3 n2 n1 hn
  go_enter Try.func8, Try.ntmps8
  go_wp2_with fail
  refine (cO.out _).mono ?_; rintro e w1 ⟨rfl, hb1⟩
  go_wp2_with fail
  refine (cN.out _).mono ?_; rintro e w2 ⟨rfl, hb2⟩
  have B2 : Below w.heap.size w w2 := hb1.trans (hb2.mono hb1.size)
  have z2 := B2.size
  go_wp2_with fail
  refine (cC.out _).mono ?_; rintro e w3 ⟨rfl, hb3⟩
  obtain ⟨hk3, hf3, hz3⟩ := bcellAt (b := w2.heap.size) (by simp) hb3
  have B3 : Below w.heap.size w w3 := by (repeat (first | (with_reducible exact Below.refl _ _) | ((with_reducible refine below_alloc ?_ ?_ _); · (first | omega | (simp; done) | (simp; omega))) | ((with_reducible refine below_setCell ?_ ?_ _); · (first | omega | (simp; done) | (simp; omega))) | (with_reducible refine Below.drew ?_) | (with_reducible refine below_drewN ?_ _) | ((with_reducible refine below_call (by assumption) ?_ ?_); · (first | omega | (simp; done) | (simp; omega)))))
  have z3 := B3.size
  go_wp2_with fail
  refine (cL.out _).mono ?_; rintro e w4 ⟨rfl, hb4⟩
  obtain ⟨hk4, hf4, hz4⟩ := bcellAt (b := w2.heap.size) hz3 hb4
  have B4 : Below w.heap.size w w4 := by (repeat (first | (with_reducible exact Below.refl _ _) | ((with_reducible refine below_alloc ?_ ?_ _); · (first | omega | (simp; done) | (simp; omega))) | ((with_reducible refine below_setCell ?_ ?_ _); · (first | omega | (simp; done) | (simp; omega))) | (with_reducible refine Below.drew ?_) | (with_reducible refine below_drewN ?_ _) | ((with_reducible refine below_call (by assumption) ?_ ?_); · (first | omega | (simp; done) | (simp; omega)))))
  have z4 := B4.size
  go_wp2_with fail
  refine (cK.out _).mono ?_; rintro e w5 ⟨rfl, hb5⟩
  have B5 : Below w.heap.size w w5 := by (repeat (first | (with_reducible exact Below.refl _ _) | ((with_reducible refine below_alloc ?_ ?_ _); · (first | omega | (simp; done) | (simp; omega))) | ((with_reducible refine below_setCell ?_ ?_ _); · (first | omega | (simp; done) | (simp; omega))) | (with_reducible refine Below.drew ?_) | (with_reducible refine below_drewN ?_ _) | ((with_reducible refine below_call (by assumption) ?_ ?_); · (first | omega | (simp; done) | (simp; omega)))))
  go_wp2
  refine bodyPost_ret (v := .tuple #[.string (b.extract 2 (2 + n)), .int .i64 (2 + (n : Int)), .int .i64 0]) (by simp [results, Try.results8, go_sem]) rfl ?_
  exact ⟨by rw [hV.out], by (repeat (first | (with_reducible exact Below.refl _ _) | ((with_reducible refine below_alloc ?_ ?_ _); · (first | omega | (simp; done) | (simp; omega))) | ((with_reducible refine below_setCell ?_ ?_ _); · (first | omega | (simp; done) | (simp; omega))) | (with_reducible refine Below.drew ?_) | (with_reducible refine below_drewN ?_ _) | ((with_reducible refine below_call (by assumption) ?_ ?_); · (first | omega | (simp; done) | (simp; omega)))))⟩
end Go.Proofs.Ytbaclfpkaobggaa
