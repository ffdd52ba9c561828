/- Layer 14, the program's: slices.Equal of entries; Same; Sources. -/
import Derived.Test.YtpmabkegjdjodaaP14D
import Derived.Test.YtpmabkegjdjodaaS14E
namespace Go.Proofs.Ytpmabkegjdjodaa
open Go.RowKit
set_option linter.unusedVariables false
set_option linter.unusedSimpArgs false

set_option maxRecDepth 100000 in
set_option maxHeartbeats 4000000 in
theorem neq_sen (x y : En) (W : World) : (binOp .neq 64 (.agg #[.int .i64 x.1, .int .i64 x.2.1, .int .i64 x.2.2]) (.agg #[.int .i64 y.1, .int .i64 y.2.1, .int .i64 y.2.2])).run Try.prog W = .ok (.bool (!decide (x = y))) W := by
  have hS : Try.prog.underlying 64 = some (.struct (Try.prog.fieldsOf 64)) := by kernel_rfl
  have hp : Try.prog.stoodInHeld 64 = false := by kernel_rfl
  have hS2 : Try.prog.underlying 52 = some (.struct (Try.prog.fieldsOf 52)) := by kernel_rfl
  have hp2 : Try.prog.stoodInHeld 52 = false := by kernel_rfl
  obtain ⟨s, t, a⟩ := x
  obtain ⟨s', t', a'⟩ := y
  have h2 : ∀ d, (Op.equalIn (d + 1 + 1) 52 (.agg #[.int .i64 t, .int .i64 a]) (.agg #[.int .i64 t', .int .i64 a'])).run Try.prog W = .ok (decide (t = t') && decide (a = a')) W := by
    intro d
    rw [run_equalIn_agg W (d + 1) 52 _ _ hS2 hp2]
    simp only [Program.fieldsOf, Try.underlying52]
    go_simp
    by_cases e1 : t = t' <;> by_cases e2 : a = a' <;> simp [e1, e2]
  rw [run_neq_struct, show (10000 : Nat) = 9997 + 1 + 1 + 1 from rfl, run_equalIn_agg W (9997 + 1 + 1) 64 _ _ hS hp]
  clear hS hp hS2 hp2
  have h3 := h2 9997
  clear h2
  simp only [Program.fieldsOf, Try.underlying64]
  go_simp
  clear h3
  by_cases e0 : s = s' <;> by_cases e1 : t = t' <;> by_cases e2 : a = a' <;> simp [e0, e1, e2]
set_option maxRecDepth 100000 in
set_option maxHeartbeats 4000000 in
theorem pequal_any (v1 v2 : Value) (L M : List En) (w : World) (h1 : IsR 3 enC w v1 L) (h2 : IsR 3 enC w v2 M) (hl : L.length ≤ 1000000) (hm : M.length ≤ 1000000) :
    Calls Try.prog 48 #[v1, v2] w fun e w' => e = .returned (.bool (decide (L = M))) ∧ Below w.heap.size w w' := by
  obtain ⟨p1, c1, rfl, -, hp1⟩ := h1
  obtain ⟨p2, c2, rfl, -, hp2⟩ := h2
  have H1 := Lib.hid hp1
  have H2 := Lib.hid hp2
  clear hp1 hp2
  have NQ := Lib.hid (fun x y W => neq_sen x y W)
  by_cases hlen : L.length = M.length
  case neg =>
    have HQ : Hid (decide (L = M) = false) := Lib.hid (decide_eq_false (fun h => hlen (by rw [h])))
    have e0 : ((L.length : Int) != (M.length : Int)) = true := by simp; omega
    go_enter Try.func48, Try.ntmps48
    go_wp2
    go_ret
    exact ⟨ret_bool HQ.out.symm, Below.refl _ _⟩
  have e0 : ((L.length : Int) != (M.length : Int)) = false := by simp; omega
  go_enter Try.func48, Try.ntmps48
  go_wp2
  go_loopw [13] (fun i wr => ∃ k : Nat, i = .int .i64 k ∧ k ≤ L.length ∧ (∀ j (hj : j < L.length) (hj' : j < M.length), j < k → L[j] = M[j]) ∧ Below w.heap.size w wr) (fun i _ => L.length - (intOf i).toNat)
  case atStart => exact ⟨0, rfl, Nat.zero_le _, fun j _ _ h => by omega, Below.refl _ _⟩
  case round =>
    obtain ⟨k, rfl, hk, hok, hB⟩ := hrel
    have HO := Lib.hid hok
    clear hok
    by_cases hlt : k < L.length
    · have hlt' : (k : Int) < L.length := by omega
      have hlt2 : k < M.length := by omega
      have hlt2' : (k : Int) < M.length := by omega
      obtain ⟨b1, o1, rfl, g1⟩ := H1.out k hlt
      obtain ⟨b2, o2, rfl, g2⟩ := H2.out k hlt2
      have q1 := (en3_of g1).far hB
      have q2 := (en3_of g2).far hB
      have nq := NQ.out L[k] M[k]
      have HG := Lib.hid (show L[k] = M[k] → ∀ j (hj : j < L.length) (hj' : j < M.length), j < k + 1 → L[j] = M[j] from fun h j hj hj' hjk => by
        by_cases e : j = k
        · subst e; exact h
        · exact HO.out j hj hj' (by omega))
      have HF := Lib.hid (show L[k] ≠ M[k] → decide (L = M) = false from fun h => decide_eq_false (fun e => h (by subst e; rfl)))
      generalize L[k] = x at q1 nq HG HF
      generalize M[k] = y at q2 nq HG HF
      obtain ⟨x0, x1, x2⟩ := x
      obtain ⟨y0, y1, y2⟩ := y
      obtain ⟨d0, d1, d2⟩ := q1
      obtain ⟨e0', e1', e2'⟩ := q2
      simp only at d0 d1 d2 e0' e1' e2' nq
      generalize hxy : decide ((x0, x1, x2) = (y0, y1, y2)) = q at nq
      have HXY := Lib.hid hxy
      clear g1 g2 hxy
      go_wp2
      refine wp_region_held_drew (S := fun W => (W.cell? ⟨b1, o1 + k * 3, none⟩ = some (.int .i64 x0) ∧ W.cell? ⟨b1, o1 + k * 3 + 1, none⟩ = some (.int .i64 x1) ∧ W.cell? ⟨b1, o1 + k * 3 + 2, none⟩ = some (.int .i64 x2)) ∧ (W.cell? ⟨b2, o2 + k * 3, none⟩ = some (.int .i64 y0) ∧ W.cell? ⟨b2, o2 + k * 3 + 1, none⟩ = some (.int .i64 y1) ∧ W.cell? ⟨b2, o2 + k * 3 + 2, none⟩ = some (.int .i64 y2))) (by kernel_rfl) (⟨⟨d0, d1, d2⟩, e0', e1', e2'⟩) (fun hHeld => ?_)
      (refine wpAnyH_take (i := 0) (v := ?_) rfl (by kernel_rfl) (by kernel_rfl) (by kernel_rfl) (fun _ _ _ h => h) (Or.inl ⟨by rfl, ?_⟩) (by assumption) ?_; rotate_left 1; (focus (intro wz hz; (try dsimp only at hz); (try simp only [List.getElem_toArray, List.getElem_cons_succ, List.getElem_cons_zero]); go_simp; (try (rw [if_neg (by (try simp only [ByteArray.size_append]); omega)])); try (with_reducible rfl); done)))
      try simp only [Act.put, List.getElem_toArray, List.getElem_cons_succ, List.getElem_cons_zero, List.setIfInBounds_toArray, List.set_cons_zero, List.set_cons_succ]
      (refine wpAnyH_take (i := 1) (v := ?_) rfl (by kernel_rfl) (by kernel_rfl) (by kernel_rfl) (fun _ _ _ h => h) (Or.inl ⟨by rfl, ?_⟩) (by assumption) ?_; rotate_left 1; (focus (intro wz hz; (try dsimp only at hz); (try simp only [List.getElem_toArray, List.getElem_cons_succ, List.getElem_cons_zero]); go_simp; (try (rw [if_neg (by (try simp only [ByteArray.size_append]); omega)])); try (with_reducible rfl); done)))
      try simp only [Act.put, List.getElem_toArray, List.getElem_cons_succ, List.getElem_cons_zero, List.setIfInBounds_toArray, List.set_cons_zero, List.set_cons_succ]
      (refine wpAnyH_take (i := 4) (v := ?_) rfl (by kernel_rfl) (by kernel_rfl) (by kernel_rfl) (fun _ _ _ h => h) (Or.inl ⟨by rfl, ?_⟩) (by assumption) ?_; rotate_left 1; (focus (intro wz hz; (try dsimp only at hz); (try simp only [List.getElem_toArray, List.getElem_cons_succ, List.getElem_cons_zero]); go_simp; (try (rw [if_neg (by (try simp only [ByteArray.size_append]); omega)])); try (with_reducible rfl); done)))
      try simp only [Act.put, List.getElem_toArray, List.getElem_cons_succ, List.getElem_cons_zero, List.setIfInBounds_toArray, List.set_cons_zero, List.set_cons_succ]
      (refine wpAnyH_take (i := 5) (v := ?_) rfl (by kernel_rfl) (by kernel_rfl) (by kernel_rfl) (fun _ _ _ h => h) (Or.inl ⟨by rfl, ?_⟩) (by assumption) ?_; rotate_left 1; (focus (intro wz hz; (try dsimp only at hz); (try simp only [List.getElem_toArray, List.getElem_cons_succ, List.getElem_cons_zero]); go_simp; (try (rw [if_neg (by (try simp only [ByteArray.size_append]); omega)])); try (with_reducible rfl); done)))
      try simp only [Act.put, List.getElem_toArray, List.getElem_cons_succ, List.getElem_cons_zero, List.setIfInBounds_toArray, List.set_cons_zero, List.set_cons_succ]
      (refine wpAnyH_take (i := 2) (v := ?_) rfl (by kernel_rfl) (by kernel_rfl) (by kernel_rfl) (fun _ _ _ h => h) (Or.inl ⟨by rfl, ?_⟩) (by assumption) ?_; rotate_left 1; (focus (intro wz hz; (try dsimp only at hz); (try simp only [List.getElem_toArray, List.getElem_cons_succ, List.getElem_cons_zero]); go_simp; (try (rw [if_neg (by (try simp only [ByteArray.size_append]); omega)])); try (with_reducible rfl); done)))
      try simp only [Act.put, List.getElem_toArray, List.getElem_cons_succ, List.getElem_cons_zero, List.setIfInBounds_toArray, List.set_cons_zero, List.set_cons_succ]
      (refine wpAnyH_take (i := 6) (v := ?_) rfl (by kernel_rfl) (by kernel_rfl) (by kernel_rfl) (fun _ _ _ h => h) (Or.inl ⟨by rfl, ?_⟩) (by assumption) ?_; rotate_left 1; (focus (intro wz hz; (try dsimp only at hz); (try simp only [List.getElem_toArray, List.getElem_cons_succ, List.getElem_cons_zero]); go_simp; (try (rw [if_neg (by (try simp only [ByteArray.size_append]); omega)])); try (with_reducible rfl); done)))
      try simp only [Act.put, List.getElem_toArray, List.getElem_cons_succ, List.getElem_cons_zero, List.setIfInBounds_toArray, List.set_cons_zero, List.set_cons_succ]
      (refine wpAnyH_take (i := 3) (v := ?_) rfl (by kernel_rfl) (by kernel_rfl) (by kernel_rfl) (fun _ _ _ h => h) (Or.inl ⟨by rfl, ?_⟩) (by assumption) ?_; rotate_left 1; (focus (intro wz hz; (try dsimp only at hz); (try simp only [List.getElem_toArray, List.getElem_cons_succ, List.getElem_cons_zero]); go_simp; (try (rw [if_neg (by (try simp only [ByteArray.size_append]); omega)])); try (with_reducible rfl); done)))
      try simp only [Act.put, List.getElem_toArray, List.getElem_cons_succ, List.getElem_cons_zero, List.setIfInBounds_toArray, List.set_cons_zero, List.set_cons_succ]
      (refine wpAnyH_take (i := 7) (v := ?_) rfl (by kernel_rfl) (by kernel_rfl) (by kernel_rfl) (fun _ _ _ h => h) (Or.inl ⟨by rfl, ?_⟩) (by assumption) ?_; rotate_left 1; (focus (intro wz hz; (try dsimp only at hz); (try simp only [List.getElem_toArray, List.getElem_cons_succ, List.getElem_cons_zero]); go_simp; (try (rw [if_neg (by (try simp only [ByteArray.size_append]); omega)])); try (with_reducible rfl); done)))
      try simp only [Act.put, List.getElem_toArray, List.getElem_cons_succ, List.getElem_cons_zero, List.setIfInBounds_toArray, List.set_cons_zero, List.set_cons_succ]
      (refine wpAnyH_take (i := 8) (v := ?_) rfl (by kernel_rfl) (by kernel_rfl) (by kernel_rfl) (fun _ _ _ h => h) (Or.inl ⟨by rfl, ?_⟩) (by assumption) ?_; rotate_left 1; (focus (intro wz hz; (try dsimp only at hz); (try simp only [List.getElem_toArray, List.getElem_cons_succ, List.getElem_cons_zero]); go_simp; (try (rw [if_neg (by (try simp only [ByteArray.size_append]); omega)])); try (with_reducible rfl); done)))
      try simp only [Act.put, List.getElem_toArray, List.getElem_cons_succ, List.getElem_cons_zero, List.setIfInBounds_toArray, List.set_cons_zero, List.set_cons_succ]
      refine wpAnyH_done (by kernel_rfl) ?_ _
      clear hHeld nq
      cases q with
      | true =>
        have HG2 := Lib.hid (HG.out (of_decide_eq_true HXY.out))
        go_wp2
        go_roundw
        case rel => exact ⟨k + 1, by go_num, by omega, HG2.out, hB.drew⟩
        case measure => simp [intOf]; omega
      | false =>
        have HF2 := Lib.hid (HF.out (of_decide_eq_false HXY.out))
        go_wp2
        go_ret
        exact ⟨ret_bool HF2.out.symm, hB.drew⟩
    · have HQ : Hid (decide (L = M) = true) := Lib.hid (decide_eq_true (List.ext_getElem hlen (fun j h1 h2 => HO.out j h1 h2 (by omega))))
      have hlt' : ¬ (k : Int) < L.length := by omega
      go_wp2
      go_ret
      exact ⟨ret_bool HQ.out.symm, hB⟩
theorem pssame_any (v1 v2 : Value) (L M : List En) (w : World) (h1 : IsR 3 enC w v1 L) (h2 : IsR 3 enC w v2 M) (hl : L.length ≤ 1000000) (hm : M.length ≤ 1000000) : Calls Try.prog 23 #[v1, v2] w fun e w' => e = .returned (.bool (decide (L = M))) ∧ Below w.heap.size w w' := by
  have c := Lib.hid (pequal_any v1 v2 L M w h1 h2 hl hm)
  generalize decide (L = M) = q at c ⊢
  obtain ⟨p1, c1, rfl, -, -⟩ := h1
  obtain ⟨p2, c2, rfl, -, -⟩ := h2
  go_enter Try.func23, Try.ntmps23
  go_wp2_with fail
  refine c.out.mono ?_; rintro e w1 ⟨rfl, hb1⟩
  go_wp2
  go_ret
  exact ⟨rfl, hb1⟩
/-- the first k sources, and zeros behind them -/
def halfS (L : List En) (k : Nat) : List Int := souL (L.take k) ++ List.replicate (L.length - k) 0
theorem halfS_len {L : List En} {k : Nat} (h : k ≤ L.length) : (halfS L k).length = L.length := by
  unfold halfS souL
  rw [List.length_append, List.length_map, List.length_take, List.length_replicate]
  omega
theorem halfS_next {L : List En} {k : Nat} (h : k < L.length) : (halfS L k).set k L[k].1 = halfS L (k + 1) := by
  unfold halfS souL
  have e : ((L.take k).map (fun e => e.1)).length = k := by rw [List.length_map, List.length_take]; omega
  rw [List.set_append_right _ _ (by omega), e, Nat.sub_self, show L.length - k = (L.length - (k + 1)) + 1 by omega, List.replicate_succ, List.set_cons_zero, List.take_succ_eq_append_getElem h, List.map_append]
  simp
theorem halfS_all (L : List En) : halfS L L.length = souL L := by
  unfold halfS
  rw [List.take_length, Nat.sub_self, List.replicate_zero, List.append_nil]
theorem flat_inC : ∀ l : List Int, l.flatMap inC = l.map (Value.int .i64)
  | [] => rfl
  | x :: l => by rw [List.flatMap_cons, flat_inC l]; rfl
theorem made_ints (n : Nat) : (madeCells #[Value.int .i64 0] n).toList = (List.replicate n (0 : Int)).map (Value.int .i64) := by
  apply List.ext_getElem?
  intro j
  by_cases hj : j < n
  · rw [List.getElem?_eq_getElem (by rw [Array.length_toList, size_madeCells]; exact hj), List.getElem?_eq_getElem (by rw [List.length_map, List.length_replicate]; exact hj)]
    simp [madeCells, Nat.mod_one]
  · rw [List.getElem?_eq_none (by rw [Array.length_toList, size_madeCells]; omega), List.getElem?_eq_none (by rw [List.length_map, List.length_replicate]; omega)]
set_option maxRecDepth 100000 in
set_option maxHeartbeats 4000000 in
theorem pssources_any (v : Value) (L : List En) (w : World) (hv : IsR 3 enC w v L) (hl : L.length ≤ 1000000) : Calls Try.prog 21 #[v] w fun e w' => ∃ v', e = .returned v' ∧ IsI w' v' (souL L) ∧ Below w.heap.size w w' := by
  obtain ⟨i1, hi1, hk0, hk1, hk2⟩ := info_parts lays_int.info
  obtain ⟨N, hN⟩ : ∃ N, N = L.length := ⟨_, rfl⟩
  obtain ⟨M, hM⟩ : ∃ M, M = madeCells (Value.int .i64 0).cells (N * i1.size) := ⟨_, rfl⟩
  have hM2 : M.toList = (halfS L 0).map (Value.int .i64) := by
    rw [hM, hk1, Nat.mul_one]
    unfold halfS souL
    rw [List.take_zero, List.map_nil, List.nil_append, Nat.sub_zero, ← hN]
    exact made_ints N
  have hM3 : M.size = N * 1 := by rw [hM, hk1, size_madeCells]
  have hmk : ∀ W : World, (Instr.makeSlice 45 (.int .i64 (N : Int)) (.int .i64 (N : Int))).run Try.prog W = .ok (.slice (some ⟨W.heap.size, 0, none⟩) N N) (W.alloc (.cells M 3)) := fun W => by
    have h := run_make (P := Try.prog) W 45 3 i1 (.int .i64 0) Try.underlying45 hi1 hk0 .i64 .i64 (N : Int) (N : Int) (by omega) (by omega) (by rw [hk2]; omega) (by omega)
    simp only [Int.toNat_natCast] at h
    rw [← hM] at h
    exact h
  obtain ⟨p, cap, rfl, -, hp⟩ := hv
  have hst : (w.alloc (.cells M 3)).ownsRow w.heap.size 3 1 (.slice (some ⟨w.heap.size, 0, none⟩) N N) N ((halfS L 0).map (Value.int .i64)) := by
    rw [← hM2]
    exact World.ownsRow_lit w M N (Nat.le_refl _) (by unfold maxLen; omega) hM3
  have Hst := Lib.hid hst
  have HP := Lib.hid hp
  have HN := Lib.hid hN
  rw [← hN]
  clear hM hM2 hM3 hp hst
  have hNl : N ≤ 1000000 := by omega
  clear hN hl
  go_enter Try.func21, Try.ntmps21
  go_wp2
  go_loopw [11] (fun i wr => ∃ k : Nat, i = .int .i64 k ∧ k ≤ N ∧ wr.ownsRow w.heap.size 3 1 (.slice (some ⟨w.heap.size, 0, none⟩) N N) N ((halfS L k).map (Value.int .i64)) ∧ Below w.heap.size w wr) (fun i _ => N - (intOf i).toNat)
  case atStart => exact ⟨0, rfl, by omega, Hst.out, by (repeat (first | (with_reducible exact Below.refl _ _) | ((with_reducible refine below_alloc ?_ ?_ _); · (first | omega | (simp; done) | (simp; omega))) | ((with_reducible refine below_setCell ?_ ?_ _); · (first | omega | (simp; done) | (simp; omega))) | (with_reducible refine Below.drew ?_) | (with_reducible refine below_drewN ?_ _) | ((with_reducible refine below_call (by assumption) ?_ ?_); · (first | omega | (simp; done) | (simp; omega)))))⟩
  case round =>
    obtain ⟨k, rfl, hk, hown, hB⟩ := hrel
    by_cases hlt : k < N
    · have hlt' : (k : Int) < N := by omega
      have hlt2 : k < L.length := by rw [← HN.out]; exact hlt
      obtain ⟨b, off, rfl, g⟩ := HP.out k hlt2
      obtain ⟨d0, d1, d2⟩ := (en3_of g).far hB
      have HX := Lib.hid (halfS_next hlt2)
      have hkl := halfS_len (L := L) (k := k) (by omega)
      generalize L[k] = x at d0 d1 d2 HX
      obtain ⟨s, T, A⟩ := x
      simp only at d0 d1 d2
      have HW := Lib.hid hown
      have hf : ∀ j, wr.frozen? ⟨w.heap.size, j, none⟩ = false := fun j => hown.frozenAt j
      obtain ⟨a0, e0⟩ : ∃ u, wr.cell? ⟨w.heap.size, k, none⟩ = some u := ⟨_, (hown.cellAt k (by omega)).trans (List.getElem?_eq_getElem (by rw [List.length_map, hkl, ← HN.out]; exact hlt))⟩
      have hzw : w.heap.size < wr.heap.size := World.block_lt_of_cell? _ _ e0
      have hne : w.heap.size ≠ wr.heap.size := by omega
      clear g hown hkl Hst
      go_wp2
      go_roundw
      case rel =>
        refine ⟨k + 1, by go_num, by omega, ?_, by (repeat (first | (with_reducible exact Below.refl _ _) | ((with_reducible refine below_alloc ?_ ?_ _); · (first | omega | (simp; done) | (simp; omega))) | ((with_reducible refine below_setCell ?_ ?_ _); · (first | omega | (simp; done) | (simp; omega))) | (with_reducible refine Below.drew ?_) | (with_reducible refine below_drewN ?_ _) | ((with_reducible refine below_call (by assumption) ?_ ?_); · (first | omega | (simp; done) | (simp; omega)))))⟩
        rw [← HX.out, List.map_set]
        exact World.ownsRow.alloc (HW.out.stored _ _).1 _
      case measure => simp [intOf]; omega
    · obtain rfl : k = N := by omega
      have hfin : OwnR 3 1 inC wr w.heap.size (.slice (some ⟨w.heap.size, 0, none⟩) k k) (souL L) := by
        rw [HN.out, halfS_all, ← HN.out] at hown
        unfold OwnR
        rw [flat_inC]
        have : (souL L).length = k := by unfold souL; rw [List.length_map, ← HN.out]
        rw [this]
        exact hown
      go_wp2
      go_ret
      exact ⟨_, rfl, isI_of (hfin.reads inC_len), hB⟩
end Go.Proofs.Ytpmabkegjdjodaa
