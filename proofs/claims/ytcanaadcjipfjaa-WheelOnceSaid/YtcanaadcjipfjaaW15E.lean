/- Layer 15, the document's: how many are due in each slot. -/
import Derived.Test.YtcanaadcjipfjaaW15D
namespace Go.Proofs.Ytcanaadcjipfjaa
open Go.RowKit
set_option linter.unusedVariables false
set_option linter.unusedSimpArgs false

theorem loadW_len (N : Nat) (l : List Du) : (loadW N l).length = N := by unfold loadW; rw [List.length_map, List.length_range]
theorem loadW_at (N : Nat) (l : List Du) (k : Nat) (h : k < (loadW N l).length) : (loadW N l)[k] = ((l.filter fun e => decide (e.2 % (N : Int) = (k : Int))).length : Int) := by
  simp only [loadW, List.getElem_map, List.getElem_range]
theorem loadW_none (N : Nat) : loadW N [] = List.replicate N 0 := by
  apply List.ext_getElem
  · rw [loadW_len, List.length_replicate]
  · intro j h1 h2
    rw [loadW_at, List.getElem_replicate]
    rfl
theorem loadW_next (N : Nat) (l : List Du) (e : Du) (m : Nat) (hm : m < N) (he : e.2 % (N : Int) = m) : loadW N (l ++ [e]) = (loadW N l).set m ((loadW N l)[m]'(by rw [loadW_len]; exact hm) + 1) := by
  apply List.ext_getElem
  · rw [List.length_set, loadW_len, loadW_len]
  · intro j h1 h2
    rw [loadW_at, List.filter_append, List.length_append, List.getElem_set]
    by_cases hj : m = j
    · subst hj
      rw [if_pos rfl, loadW_at, List.filter_cons_of_pos (by simpa using he)]
      simp
    · rw [if_neg hj, loadW_at, List.filter_cons_of_neg (by simp only [decide_eq_true_eq]; omega)]
      simp
theorem loadW_bd (N : Nat) (l : List Du) (k : Nat) (h : k < (loadW N l).length) : 0 ≤ (loadW N l)[k] ∧ (loadW N l)[k] ≤ l.length := by
  rw [loadW_at]
  have := List.length_filter_le (fun e : Du => decide (e.2 % (N : Int) = (k : Int))) l
  omega
theorem made_ints (n : Nat) : (madeCells #[Value.int .i64 0] n).toList = (List.replicate n (0 : Int)).map (Value.int .i64) := by
  apply List.ext_getElem?
  intro j
  by_cases hj : j < n
  · rw [List.getElem?_eq_getElem (by rw [Array.length_toList, size_madeCells]; exact hj), List.getElem?_eq_getElem (by rw [List.length_map, List.length_replicate]; exact hj)]
    simp [madeCells, Nat.mod_one]
  · rw [List.getElem?_eq_none (by rw [Array.length_toList, size_madeCells]; omega), List.getElem?_eq_none (by rw [List.length_map, List.length_replicate]; omega)]
theorem tmod_nat (x : Int) (h : 0 ≤ x) (n : Nat) (hn : 0 < n) : ∃ y : Nat, Int.tmod x n = y ∧ x % n = y ∧ y < n := by
  rw [Int.tmod_eq_emod_of_nonneg h]
  have h1 := Int.emod_nonneg x (show (n : Int) ≠ 0 by omega)
  have h2 := Int.emod_lt_of_pos x (show (0 : Int) < n by omega)
  exact ⟨(x % n).toNat, by omega, by omega, by omega⟩
set_option maxRecDepth 100000 in
set_option maxHeartbeats 4000000 in
theorem refload_any (N : Nat) (now : Int) (v : Value) (L : List Du) (w : World) (hv : IsL w v L) (hl : L.length ≤ 1000000) (hN : 1 ≤ N ∧ N ≤ 32) (hp : ∀ e ∈ L, 0 ≤ e.2) :
    Calls Try.prog 28 #[whV N now v] w fun e w' => ∃ o, e = .returned o ∧ OwnI w' w.heap.size o (loadW N L) ∧ Below w.heap.size w w' := by
  obtain ⟨i1, hi1, hk0, hk1, hk2⟩ := info_parts info_int
  obtain ⟨M, hM⟩ : ∃ M, M = madeCells (Value.int .i64 0).cells (N * i1.size) := ⟨_, rfl⟩
  have hM2 : M.toList = (loadW N (L.take 0)).map (Value.int .i64) := by rw [hM, hk1, List.take_zero, loadW_none, Nat.mul_one]; exact made_ints N
  have hM3 : M.size = N * 1 := by rw [hM, hk1, size_madeCells]
  have hmk : ∀ W : World, (Instr.makeSlice 53 (.int .i64 (N : Int)) (.int .i64 (N : Int))).run Try.prog W = .ok (.slice (some ⟨W.heap.size, 0, none⟩) N N) (W.alloc (.cells M 3)) := fun W => by
    have h := run_make (P := Try.prog) W 53 3 i1 (.int .i64 0) Try.underlying53 hi1 hk0 .i64 .i64 (N : Int) (N : Int) (by omega) (by omega) (by rw [hk2]; omega) (by omega)
    simp only [Int.toNat_natCast] at h
    rw [← hM] at h
    exact h
  have Hst := Lib.hid (show ∀ W : World, (W.alloc (.cells M 3)).ownsRow W.heap.size 3 1 (.slice (some ⟨W.heap.size, 0, none⟩) N N) N ((loadW N (L.take 0)).map (Value.int .i64)) from fun W => by
    rw [← hM2]
    exact World.ownsRow_lit W M N (Nat.le_refl _) (by unfold maxLen; omega) hM3)
  obtain ⟨p, cap, rfl, -, -, HP⟩ := hv.at
  clear hM hM2 hM3 hv
  have HPP := Lib.hid hp
  clear hp
  have X0 : Hid (∀ t, Wh3 (w.alloc (.cells #[.int .i64 N, .int .i64 now, .slice p L.length cap] t)) w.heap.size N now (.slice p L.length cap)) := Lib.hid (fun t => by simp [Wh3, go_sem])
  simp only [whV] at *
  go_enter Try.func28, Try.ntmps28
  go_upto_region 2 with fail
  refine gen_world (F := fun W => Wh3 W w.heap.size N now (.slice p L.length cap) ∧ W.ownsRow (w.heap.size + 1) 3 1 (.slice (some ⟨w.heap.size + 1, 0, none⟩) N N) N ((loadW N (L.take 0)).map (Value.int .i64)) ∧ Below w.heap.size w W ∧ w.heap.size + 1 + 1 ≤ W.heap.size) ⟨?_, ?_, by (repeat (first | (with_reducible exact Below.refl _ _) | ((with_reducible refine below_alloc ?_ ?_ _); · (first | omega | (simp; done) | (simp; omega))) | ((with_reducible refine below_setCell ?_ ?_ _); · (first | omega | (simp; done) | (simp; omega))) | (with_reducible refine Below.drew ?_) | (with_reducible refine below_drewN ?_ _) | ((with_reducible refine below_call (by assumption) ?_ ?_); · (first | omega | (simp; done) | (simp; omega))))), by simp⟩ (fun wt hF => ?_)
  · exact (X0.out _).call (below_alloc (Nat.le_refl _) (Below.refl _ _) _)
  · have h := Hst.out (w.alloc (.cells #[.int .i64 N, .int .i64 now, .slice p L.length cap] 30))
    simp only [World.size_alloc] at h
    exact h
  obtain ⟨X, HO, hB, hz⟩ := hF
  clear X0 Hst
  go_wp2
  go_loopw [4] (fun i wr => ∃ k : Nat, i = .int .i64 k ∧ k ≤ L.length ∧ wr.ownsRow (w.heap.size + 1) 3 1 (.slice (some ⟨w.heap.size + 1, 0, none⟩) N N) N ((loadW N (L.take k)).map (Value.int .i64)) ∧ Wh3 wr w.heap.size N now (.slice p L.length cap) ∧ Below w.heap.size w wr ∧ w.heap.size + 1 + 1 ≤ wr.heap.size) (fun i _ => L.length - (intOf i).toNat)
  case atStart => exact ⟨0, rfl, Nat.zero_le _, HO, X, hB, hz⟩
  case round =>
    clear HO X hB hz
    obtain ⟨k, rfl, hk, HO, X, hB, hz⟩ := hrel
    have HX := Lib.hid X
    by_cases hlt : k < L.length
    · have hlt' : (k : Int) < L.length := by omega
      obtain ⟨b, off, rfl, g⟩ := HP.out k hlt
      have hbl : b < w.heap.size := World.block_lt_of_cell? _ _ g.1
      have g1 := (g.far hB).2
      have ht0 := HPP.out L[k] (List.getElem_mem hlt)
      have HT := Lib.hid (List.take_succ_eq_append_getElem hlt)
      have HNX := Lib.hid (fun (m : Nat) (hm : m < N) (he : L[k].2 % (N : Int) = m) => loadW_next N (L.take k) L[k] m hm he)
      obtain ⟨m, hm1, hm2, hm3⟩ := tmod_nat L[k].2 ht0 N (by omega)
      have HS := Lib.hid (HNX.out m hm3 hm2)
      generalize L[k] = e at g1 HT HS hm1
      obtain ⟨s, t⟩ := e
      simp only at g1 hm1
      have hml : m < (loadW N (L.take k)).length := by rw [loadW_len]; exact hm3
      have hbd := loadW_bd N (L.take k) m hml
      have hkt : (L.take k).length ≤ 1000000 := by rw [List.length_take]; omega
      obtain ⟨x, hx⟩ : ∃ x, (loadW N (L.take k))[m] = x := ⟨_, rfl⟩
      rw [hx] at hbd HS
      have hc : wr.cell? ⟨w.heap.size + 1, m, none⟩ = some (.int .i64 x) := by rw [HO.cellAt m (by omega), ← hx]; simp [hml]
      have hf : ∀ j, wr.frozen? ⟨w.heap.size + 1, j, none⟩ = false := fun j => HO.frozenAt j
      have HOO := Lib.hid HO
      have hwm : IntKind.i64.wrap (m : Int) = m := IntWalk.i64_in _ (by omega)
      have hwx : IntKind.i64.wrap (x + 1) = x + 1 := IntWalk.i64_in _ (by omega)
      have hwm0 : (0 : Int) ≤ (m : Int) + 1 := by omega
      have hmN : (m : Int) < N := by omega
      have hN0 : ¬ (N : Int) = 0 := by omega
      have hN0b : ((N : Int) == 0) = false := by simp; omega
      have hwk0 : (0 : Int) ≤ (k : Int) + 1 := by omega
      obtain ⟨x0, x1, x2⟩ := X
      have hT0 : Below wr.heap.size wr wr.drew := Below.drew (Below.refl _ _)
      clear HNX hx HO hml hkt g ht0 hm2 x1
      go_upto_region 5 with fail
      refine wp_region_tail_drew (l1 := [_, _, _, _, _, _, _, _, _, _, _, _, _]) (l2 := _) (S := fun W => (W.cell? ⟨w.heap.size, 0, none⟩ = some (.int .i64 N) ∧ W.cell? ⟨w.heap.size, 2, none⟩ = some (.slice (some ⟨b, off, none⟩) L.length cap)) ∧ (W.cell? ⟨b, off + k * 2 + 1, none⟩ = some (.int .i64 t) ∧ W.cell? ⟨w.heap.size + 1, m, none⟩ = some (.int .i64 x))) (by kernel_rfl) (by kernel_rfl) (⟨⟨x0, x2⟩, g1, hc⟩) (fun hHeld => ?_)
      (refine wpAnyH_take (i := 0) (v := ?_) rfl (by kernel_rfl) (by kernel_rfl) (by kernel_rfl) (fun _ _ _ h => h) (Or.inl ⟨by rfl, ?_⟩) (by assumption) ?_; rotate_left 1; (focus (intro wz hz; (try dsimp only at hz); (try simp only [List.getElem_toArray, List.getElem_cons_succ, List.getElem_cons_zero]); go_simp; (try (rw [if_neg (by (try simp only [ByteArray.size_append]); omega)])); try (with_reducible rfl); done)))
      try simp only [Act.put, List.getElem_toArray, List.getElem_cons_succ, List.getElem_cons_zero, List.setIfInBounds_toArray, List.set_cons_zero, List.set_cons_succ]
      (refine wpAnyH_take (i := 1) (v := ?_) rfl (by kernel_rfl) (by kernel_rfl) (by kernel_rfl) (fun _ _ _ h => h) (Or.inl ⟨by rfl, ?_⟩) (by assumption) ?_; rotate_left 1; (focus (intro wz hz; (try dsimp only at hz); (try simp only [List.getElem_toArray, List.getElem_cons_succ, List.getElem_cons_zero]); go_simp; (try (rw [if_neg (by (try simp only [ByteArray.size_append]); omega)])); try (with_reducible rfl); done)))
      try simp only [Act.put, List.getElem_toArray, List.getElem_cons_succ, List.getElem_cons_zero, List.setIfInBounds_toArray, List.set_cons_zero, List.set_cons_succ]
      (refine wpAnyH_take (i := 3) (v := ?_) rfl (by kernel_rfl) (by kernel_rfl) (by kernel_rfl) (fun _ _ _ h => h) (Or.inl ⟨by rfl, ?_⟩) (by assumption) ?_; rotate_left 1; (focus (intro wz hz; (try dsimp only at hz); (try simp only [List.getElem_toArray, List.getElem_cons_succ, List.getElem_cons_zero]); go_simp; (try (rw [if_neg (by (try simp only [ByteArray.size_append]); omega)])); try (with_reducible rfl); done)))
      try simp only [Act.put, List.getElem_toArray, List.getElem_cons_succ, List.getElem_cons_zero, List.setIfInBounds_toArray, List.set_cons_zero, List.set_cons_succ]
      (refine wpAnyH_take (i := 7) (v := ?_) rfl (by kernel_rfl) (by kernel_rfl) (by kernel_rfl) (fun _ _ _ h => h) (Or.inl ⟨by rfl, ?_⟩) (by assumption) ?_; rotate_left 1; (focus (intro wz hz; (try dsimp only at hz); (try simp only [List.getElem_toArray, List.getElem_cons_succ, List.getElem_cons_zero]); go_simp; (try (rw [if_neg (by (try simp only [ByteArray.size_append]); omega)])); try (with_reducible rfl); done)))
      try simp only [Act.put, List.getElem_toArray, List.getElem_cons_succ, List.getElem_cons_zero, List.setIfInBounds_toArray, List.set_cons_zero, List.set_cons_succ]
      (refine wpAnyH_take (i := 2) (v := ?_) rfl (by kernel_rfl) (by kernel_rfl) (by kernel_rfl) (fun _ _ _ h => h) (Or.inl ⟨by rfl, ?_⟩) (by assumption) ?_; rotate_left 1; (focus (intro wz hz; (try dsimp only at hz); (try simp only [List.getElem_toArray, List.getElem_cons_succ, List.getElem_cons_zero]); go_simp; (try (rw [if_neg (by (try simp only [ByteArray.size_append]); omega)])); try (with_reducible rfl); done)))
      try simp only [Act.put, List.getElem_toArray, List.getElem_cons_succ, List.getElem_cons_zero, List.setIfInBounds_toArray, List.set_cons_zero, List.set_cons_succ]
      (refine wpAnyH_take (i := 8) (v := ?_) rfl (by kernel_rfl) (by kernel_rfl) (by kernel_rfl) (fun _ _ _ h => h) (Or.inl ⟨by rfl, ?_⟩) (by assumption) ?_; rotate_left 1; (focus (intro wz hz; (try dsimp only at hz); (try simp only [List.getElem_toArray, List.getElem_cons_succ, List.getElem_cons_zero]); go_simp; (try (rw [if_neg (by (try simp only [ByteArray.size_append]); omega)])); try (with_reducible rfl); done)))
      try simp only [Act.put, List.getElem_toArray, List.getElem_cons_succ, List.getElem_cons_zero, List.setIfInBounds_toArray, List.set_cons_zero, List.set_cons_succ]
      (refine wpAnyH_take (i := 4) (v := ?_) rfl (by kernel_rfl) (by kernel_rfl) (by kernel_rfl) (fun _ _ _ h => h) (Or.inl ⟨by rfl, ?_⟩) (by assumption) ?_; rotate_left 1; (focus (intro wz hz; (try dsimp only at hz); (try simp only [List.getElem_toArray, List.getElem_cons_succ, List.getElem_cons_zero]); go_simp; (try (rw [if_neg (by (try simp only [ByteArray.size_append]); omega)])); try (with_reducible rfl); done)))
      try simp only [Act.put, List.getElem_toArray, List.getElem_cons_succ, List.getElem_cons_zero, List.setIfInBounds_toArray, List.set_cons_zero, List.set_cons_succ]
      (refine wpAnyH_take (i := 5) (v := ?_) rfl (by kernel_rfl) (by kernel_rfl) (by kernel_rfl) (fun _ _ _ h => h) (Or.inl ⟨by rfl, ?_⟩) (by assumption) ?_; rotate_left 1; (focus (intro wz hz; (try dsimp only at hz); (try simp only [List.getElem_toArray, List.getElem_cons_succ, List.getElem_cons_zero]); go_simp; (try (rw [if_neg (by (try simp only [ByteArray.size_append]); omega)])); try (with_reducible rfl); done)))
      try simp only [Act.put, List.getElem_toArray, List.getElem_cons_succ, List.getElem_cons_zero, List.setIfInBounds_toArray, List.set_cons_zero, List.set_cons_succ]
      (refine wpAnyH_take (i := 6) (v := ?_) rfl (by kernel_rfl) (by kernel_rfl) (by kernel_rfl) (fun _ _ _ h => h) (Or.inl ⟨by rfl, ?_⟩) (by assumption) ?_; rotate_left 1; (focus (intro wz hz; (try dsimp only at hz); (try simp only [List.getElem_toArray, List.getElem_cons_succ, List.getElem_cons_zero]); go_simp; (try (rw [if_neg (by (try simp only [ByteArray.size_append]); omega)])); try (with_reducible rfl); done)))
      try simp only [Act.put, List.getElem_toArray, List.getElem_cons_succ, List.getElem_cons_zero, List.setIfInBounds_toArray, List.set_cons_zero, List.set_cons_succ]
      (refine wpAnyH_take (i := 9) (v := ?_) rfl (by kernel_rfl) (by kernel_rfl) (by kernel_rfl) (fun _ _ _ h => h) (Or.inl ⟨by rfl, ?_⟩) (by assumption) ?_; rotate_left 1; (focus (intro wz hz; (try dsimp only at hz); (try simp only [List.getElem_toArray, List.getElem_cons_succ, List.getElem_cons_zero]); go_simp; (try (rw [if_neg (by (try simp only [ByteArray.size_append]); omega)])); try (with_reducible rfl); done)))
      try simp only [Act.put, List.getElem_toArray, List.getElem_cons_succ, List.getElem_cons_zero, List.setIfInBounds_toArray, List.set_cons_zero, List.set_cons_succ]
      (refine wpAnyH_take (i := 10) (v := ?_) rfl (by kernel_rfl) (by kernel_rfl) (by kernel_rfl) (fun _ _ _ h => h) (Or.inl ⟨by rfl, ?_⟩) (by assumption) ?_; rotate_left 1; (focus (intro wz hz; (try dsimp only at hz); (try simp only [List.getElem_toArray, List.getElem_cons_succ, List.getElem_cons_zero]); go_simp; (try (rw [if_neg (by (try simp only [ByteArray.size_append]); omega)])); try (with_reducible rfl); done)))
      try simp only [Act.put, List.getElem_toArray, List.getElem_cons_succ, List.getElem_cons_zero, List.setIfInBounds_toArray, List.set_cons_zero, List.set_cons_succ]
      (refine wpAnyH_take (i := 11) (v := ?_) rfl (by kernel_rfl) (by kernel_rfl) (by kernel_rfl) (fun _ _ _ h => h) (Or.inl ⟨by rfl, ?_⟩) (by assumption) ?_; rotate_left 1; (focus (intro wz hz; (try dsimp only at hz); (try simp only [List.getElem_toArray, List.getElem_cons_succ, List.getElem_cons_zero]); go_simp; (try (rw [if_neg (by (try simp only [ByteArray.size_append]); omega)])); try (with_reducible rfl); done)))
      try simp only [Act.put, List.getElem_toArray, List.getElem_cons_succ, List.getElem_cons_zero, List.setIfInBounds_toArray, List.set_cons_zero, List.set_cons_succ]
      (refine wpAnyH_take (i := 12) (v := ?_) rfl (by kernel_rfl) (by kernel_rfl) (by kernel_rfl) (fun _ _ _ h => h) (Or.inl ⟨by rfl, ?_⟩) (by assumption) ?_; rotate_left 1; (focus (intro wz hz; (try dsimp only at hz); (try simp only [List.getElem_toArray, List.getElem_cons_succ, List.getElem_cons_zero]); go_simp; (try (rw [if_neg (by (try simp only [ByteArray.size_append]); omega)])); try (with_reducible rfl); done)))
      try simp only [Act.put, List.getElem_toArray, List.getElem_cons_succ, List.getElem_cons_zero, List.setIfInBounds_toArray, List.set_cons_zero, List.set_cons_succ]
      refine wpAnyH_done (by kernel_rfl) ?_ _
      refine tail_go ?_
      clear hHeld
      have hHeld : True := trivial
      (refine wpAnyH_take (i := 13) (v := ?_) rfl (by kernel_rfl) (by kernel_rfl) (by kernel_rfl) (fun _ _ _ h => h) (Or.inl ⟨by rfl, ?_⟩) (by assumption) ?_; rotate_left 1; (focus (intro wz hz; (try dsimp only at hz); (try simp only [List.getElem_toArray, List.getElem_cons_succ, List.getElem_cons_zero]); go_simp; (try (rw [if_neg (by (try simp only [ByteArray.size_append]); omega)])); try (with_reducible rfl); done)))
      try simp only [Act.put, List.getElem_toArray, List.getElem_cons_succ, List.getElem_cons_zero, List.setIfInBounds_toArray, List.set_cons_zero, List.set_cons_succ]
      (refine wpAnyH_ready (rs := [14]) (by kernel_rfl) (by simp) ?_; refine AllReadyH.cons rfl (fun K hK => ?_) AllReadyH.nil; (try simp only [List.getElem_toArray, List.getElem_cons_succ, List.getElem_cons_zero]); skip; go_simp; refine hK.out _ _ (trivial) (fun hHeld => ?_); clear hK K)
      try simp only [Act.put, List.getElem_toArray, List.getElem_cons_succ, List.getElem_cons_zero, List.setIfInBounds_toArray, List.set_cons_zero, List.set_cons_succ]
      refine wpAnyH_done (by kernel_rfl) ?_ _
      have hbs : Below (w.heap.size + 1) wr (wr.setCell ⟨w.heap.size + 1, m, none⟩ (.int .i64 (x + 1))).drew := by (repeat (first | (with_reducible exact Below.refl _ _) | ((with_reducible refine below_alloc ?_ ?_ _); · (first | omega | (simp; done) | (simp; omega))) | ((with_reducible refine below_setCell ?_ ?_ _); · (first | omega | (simp; done) | (simp; omega))) | (with_reducible refine Below.drew ?_) | (with_reducible refine below_drewN ?_ _) | ((with_reducible refine below_call (by assumption) ?_ ?_); · (first | omega | (simp; done) | (simp; omega)))))
      go_wp2
      go_roundw
      case rel =>
        refine ⟨k + 1, by go_num, by omega, ?_, HX.out.far hbs (by omega), hB.trans (hbs.mono (by omega)), Nat.le_trans hz hbs.size⟩
        rw [HT.out, HS.out, List.map_set]
        exact World.ownsRow.call' (HOO.out.stored _ _).1 (Below.drew (Below.refl _ _))
      case measure => simp [intOf]; omega
    · obtain rfl : k = L.length := by omega
      obtain ⟨x0, x1, x2⟩ := X
      rw [List.take_length] at HO
      have hfin : OwnI wr (w.heap.size + 1) (.slice (some ⟨w.heap.size + 1, 0, none⟩) N N) (loadW N L) := by
        unfold OwnI
        rw [loadW_len]
        exact HO
      have hlt' : ¬ (L.length : Int) < L.length := by omega
      go_wp2
      go_ret
      exact ⟨_, rfl, hfin.mono (by omega), hB⟩
end Go.Proofs.Ytcanaadcjipfjaa
