/- Layer 15, the program's (a wheel whose slots are maps): New. -/
import Derived.Test.YtcanaadcjipfjaaW15G
namespace Go.Proofs.Ytcanaadcjipfjaa
open Go.RowKit
set_option linter.unusedVariables false
set_option linter.unusedSimpArgs false

theorem wnew_no (n : Int) (w : World) (hn : I64 n) (h : n < 1 ∨ 32 < n) : Calls Try.prog 8 #[.int .i64 n] w fun e w' => e = .returned (.tuple #[.pointer none, .int .i64 8]) ∧ Below w.heap.size w w' := by
  rcases h with h | h
  · go_enter Try.func8, Try.ntmps8
    go_wp2
    go_ret2
    exact ⟨rfl, Below.refl _ _⟩
  · have h' : ¬ n < 1 := by omega
    go_enter Try.func8, Try.ntmps8
    go_wp2
    go_ret2
    exact ⟨rfl, Below.refl _ _⟩
/-- the first k slots are made -/
def newR (S N k : Nat) : List Value := (List.range N).map fun j => if j < k then Value.map (some (S + 2 + j)) else Value.map none
theorem newR_len (S N k : Nat) : (newR S N k).length = N := by unfold newR; rw [List.length_map, List.length_range]
theorem newR_at {S N k j : Nat} (hj : j < N) : (newR S N k)[j]? = some (if j < k then Value.map (some (S + 2 + j)) else Value.map none) := by
  unfold newR
  rw [List.getElem?_map, List.getElem?_range hj]
  rfl
theorem newR_next {S N k : Nat} (h : k < N) : (newR S N k).set k (Value.map (some (S + 2 + k))) = newR S N (k + 1) := by
  apply List.ext_getElem?
  intro j
  rw [List.getElem?_set]
  by_cases hj : j < N
  · rw [newR_at hj, newR_at hj]
    by_cases e : k = j
    · subst e
      rw [if_pos rfl, if_pos (by rw [newR_len]; exact h), if_pos (by omega)]
    · rw [if_neg e]
      by_cases q : j < k
      · rw [if_pos q, if_pos (by omega)]
      · rw [if_neg q, if_neg (by omega)]
  · rw [if_neg (by omega), List.getElem?_eq_none (by rw [newR_len]; omega), List.getElem?_eq_none (by rw [newR_len]; omega)]
theorem newR_none (S n : Nat) : (madeCells #[Value.map none] n).toList = newR S n 0 := by
  apply List.ext_getElem?
  intro j
  by_cases hj : j < n
  · rw [newR_at hj, if_neg (by omega), List.getElem?_eq_getElem (by rw [Array.length_toList, size_madeCells]; exact hj)]
    simp [madeCells, Nat.mod_one]
  · rw [List.getElem?_eq_none (by rw [Array.length_toList, size_madeCells]; omega), List.getElem?_eq_none (by rw [newR_len]; omega)]
theorem info_map : (Try.prog.info? 69).map (fun i => (i.zero, i.size, i.bytes)) = some (some (.map none), 1, 8) := by kernel_rfl
/-- a wheel while its slots are made -/
structure NewAt (w wr : World) (N k : Nat) : Prop where
  tick : wr.cell? ⟨w.heap.size + 1, 0, none⟩ = some (.int .i64 0)
  slots : wr.cell? ⟨w.heap.size + 1, 1, none⟩ = some (.slice (some ⟨w.heap.size, 0, none⟩) N N)
  free : wr.frozen? ⟨w.heap.size + 1, 0, none⟩ = false
  row : wr.ownsRow w.heap.size 69 1 (.slice (some ⟨w.heap.size, 0, none⟩) N N) N (newR w.heap.size N k)
  map : ∀ j, j < k → IsM 3 3 wr (w.heap.size + 2 + j) []
  bel : Below w.heap.size w wr
  size : wr.heap.size = w.heap.size + 2 + k
theorem NewAt.next {w wr : World} {N k : Nat} (H : NewAt w wr N k) (hk : k < N) : NewAt w ((wr.setCell ⟨w.heap.size, k, none⟩ (.map (some wr.heap.size))).alloc (.map #[] 0)) N (k + 1) := by
  have hl : w.heap.size + 1 < (wr.setCell ⟨w.heap.size, k, none⟩ (.map (some wr.heap.size))).heap.size := by simpa using World.block_lt_of_cell? _ _ H.tick
  have ha : Below (wr.setCell ⟨w.heap.size, k, none⟩ (.map (some wr.heap.size))).heap.size (wr.setCell ⟨w.heap.size, k, none⟩ (.map (some wr.heap.size))) ((wr.setCell ⟨w.heap.size, k, none⟩ (.map (some wr.heap.size))).alloc (.map #[] 0)) := below_alloc (Nat.le_refl _) (Below.refl _ _) _
  refine ⟨?_, ?_, ?_, ?_, fun j hj => ?_, ?_, ?_⟩
  · refine (ha.cell (p := ⟨w.heap.size + 1, 0, none⟩) hl).trans ?_
    rw [World.cell?_setCell_other _ _ _ _ (by simp)]
    exact H.tick
  · refine (ha.cell (p := ⟨w.heap.size + 1, 1, none⟩) hl).trans ?_
    rw [World.cell?_setCell_other _ _ _ _ (by simp)]
    exact H.slots
  · refine (ha.frozen (p := ⟨w.heap.size + 1, 0, none⟩) hl).trans ?_
    rw [World.frozen?_setCell]
    exact H.free
  · have h := (H.row.stored k (Value.map (some wr.heap.size))).1
    rw [show newR w.heap.size N k = newR w.heap.size N k from rfl] at h
    have e : (newR w.heap.size N k).set k (Value.map (some wr.heap.size)) = newR w.heap.size N (k + 1) := by rw [H.size]; exact newR_next hk
    rw [e] at h
    exact World.ownsRow.alloc h _
  · by_cases e : j = k
    · subst e
      have := IsM.made (tk := 3) (te := 3) (wr.setCell ⟨w.heap.size, j, none⟩ (.map (some wr.heap.size)))
      rw [World.size_setCell, H.size] at this
      rw [H.size]
      exact this
    · have hj' : j < k := by omega
      exact ((H.map j hj').keep (Below.heap_setCell _ _ _ _ (by show _ ≠ w.heap.size; omega))).call ha
  · exact (below_setCell (show w.heap.size ≤ w.heap.size from Nat.le_refl _) H.bel _).alloc (by rw [World.size_setCell]; exact H.bel.size) _
  · rw [World.size_alloc, World.size_setCell, H.size]; omega
theorem NewAt.done {w wr : World} {N : Nat} (H : NewAt w wr N N) (h : 1 ≤ N ∧ N ≤ 32) : LieAt wr (w.heap.size + 1) w.heap.size N (fun j => w.heap.size + 2 + j) N 0 [] :=
  ⟨⟨good_v good_nil, h⟩, H.tick, H.slots, H.free, fun k hk => by rw [H.row.cellAt k (by omega), newR_at hk, if_pos hk], fun k hk => H.map k hk, by omega, fun k hk => ⟨by omega, by omega⟩, fun j k _ _ hjk => by omega⟩
set_option maxRecDepth 100000 in
set_option maxHeartbeats 4000000 in
theorem wnew_at (N : Nat) (w : World) (h : 1 ≤ N ∧ N ≤ 32) : Calls Try.prog 8 #[.int .i64 N] w fun e w' => e = .returned (.tuple #[ptrW (w.heap.size + 1), .int .i64 0]) ∧ LieAt w' (w.heap.size + 1) w.heap.size N (fun j => w.heap.size + 2 + j) N 0 [] ∧ Below w.heap.size w w' := by
  obtain ⟨i1, hi1, hk0, hk1, hk2⟩ := info_parts info_map
  obtain ⟨M, hM⟩ : ∃ M, M = madeCells (Value.map none).cells (N * i1.size) := ⟨_, rfl⟩
  have hM2 : M.toList = newR w.heap.size N 0 := by
    rw [hM, hk1, Nat.mul_one]
    exact newR_none _ N
  have hM3 : M.size = N * 1 := by rw [hM, hk1, size_madeCells]
  have hmk : ∀ W : World, (Instr.makeSlice 66 (.int .i64 (N : Int)) (.int .i64 (N : Int))).run Try.prog W = .ok (.slice (some ⟨W.heap.size, 0, none⟩) N N) (W.alloc (.cells M 69)) := fun W => by
    have h := run_make (P := Try.prog) W 66 69 i1 (.map none) Try.underlying66 hi1 hk0 .i64 .i64 (N : Int) (N : Int) (by omega) (by omega) (by rw [hk2]; omega) (by omega)
    simp only [Int.toNat_natCast] at h
    rw [← hM] at h
    exact h
  have hmm : ∀ W : World, (Instr.makeMap 69 none).run Try.prog W = .ok (.map (some W.heap.size)) (W.alloc (.map #[] 0)) := fun W => rfl
  have h1 : ¬ (N : Int) < 1 := by omega
  have h2 : ¬ (32 : Int) < N := by omega
  have Hst := Lib.hid (show (w.alloc (.cells M 69)).ownsRow w.heap.size 69 1 (.slice (some ⟨w.heap.size, 0, none⟩) N N) N (newR w.heap.size N 0) from by
    rw [← hM2]
    exact World.ownsRow_lit w M N (Nat.le_refl _) (by unfold maxLen; omega) hM3)
  clear hM hM2 hM3
  go_enter Try.func8, Try.ntmps8
  go_upto_region 4 with fail
  refine gen_world (F := fun W => NewAt w W N 0) ⟨by simp [go_sem], by simp [go_sem], by simp [go_sem], World.ownsRow.alloc Hst.out _, fun j hj => by omega, by (repeat (first | (with_reducible exact Below.refl _ _) | ((with_reducible refine below_alloc ?_ ?_ _); · (first | omega | (simp; done) | (simp; omega))) | ((with_reducible refine below_setCell ?_ ?_ _); · (first | omega | (simp; done) | (simp; omega))) | (with_reducible refine Below.drew ?_) | (with_reducible refine below_drewN ?_ _) | ((with_reducible refine below_call (by assumption) ?_ ?_); · (first | omega | (simp; done) | (simp; omega))))), by simp⟩ (fun wt hF => ?_)
  have HN := Lib.hid hF
  have t1 := hF.slots
  clear hF Hst
  go_wp2
  go_loopw [21] (fun i wr => ∃ k : Nat, i = .int .i64 k ∧ k ≤ N ∧ Hid (NewAt w wr N k)) (fun i _ => N - (intOf i).toNat)
  case atStart => exact ⟨0, rfl, Nat.zero_le _, HN⟩
  case round =>
    clear HN t1
    obtain ⟨k, rfl, hk, HN⟩ := hrel
    have t1 := HN.out.slots
    by_cases hlt : k < N
    · have hlt' : (k : Int) < N := by omega
      have hf := HN.out.row.frozenAt k
      obtain ⟨a0, e0⟩ : ∃ u, wr.cell? ⟨w.heap.size, k, none⟩ = some u := ⟨_, (HN.out.row.cellAt k (by omega)).trans (newR_at hlt)⟩
      have hl : w.heap.size < wr.heap.size := World.block_lt_of_cell? _ _ e0
      have hne : w.heap.size ≠ wr.heap.size := by omega
      have HX := Lib.hid (HN.out.next hlt)
      go_wp2
      go_roundw
      case rel => exact ⟨k + 1, by go_num, by omega, HX⟩
      case measure => simp [intOf]; omega
    · obtain rfl : k = N := by omega
      go_wp2
      go_ret2
      exact ⟨rfl, HN.out.done h, HN.out.bel⟩
end Go.Proofs.Ytcanaadcjipfjaa
