/- Contracts of layer 3, the program's: New. -/
import Derived.Test.YtmnlpmfkoammhaaP3K
namespace Go.Proofs.Ytmnlpmfkoammhaa
open Go.RowKit
set_option linter.unusedVariables false
set_option linter.unusedSimpArgs false

theorem made_cel (N : Nat) : (madeCells (Value.agg #[.int .i64 0, .bool false, .int .i64 0]).cells (N * 3)).toList = celF (List.replicate N zeroC) := by
  have hz : (Value.agg #[.int .i64 0, .bool false, .int .i64 0]).cells = #[.int .i64 0, .bool false, .int .i64 0] := by simp [Value.cells]
  rw [hz]
  apply List.ext_getElem?
  intro j
  by_cases hj : j < N * 3
  · have hk : j / 3 < (List.replicate N zeroC).length := by rw [List.length_replicate]; omega
    obtain ⟨g0, g1, g2⟩ := celF_get (List.replicate N zeroC) (j / 3) hk
    simp only [List.getElem_replicate] at g0 g1 g2
    have hl : (madeCells #[.int .i64 0, .bool false, .int .i64 0] (N * 3)).toList[j]? = some ((#[.int .i64 0, .bool false, .int .i64 0] : Array Value)[j % 3]!) := by simp [madeCells, hj]
    rw [hl]
    have hm : j % 3 = 0 ∧ j = j / 3 * 3 ∨ j % 3 = 1 ∧ j = j / 3 * 3 + 1 ∨ j % 3 = 2 ∧ j = j / 3 * 3 + 2 := by omega
    rcases hm with ⟨a, e⟩ | ⟨a, e⟩ | ⟨a, e⟩
    · rw [a]; rw [← e] at g0; rw [g0]; rfl
    · rw [a]; rw [← e] at g1; rw [g1]; rfl
    · rw [a]; rw [← e] at g2; rw [g2]; rfl
  · rw [List.getElem?_eq_none (by rw [Array.length_toList, size_madeCells]; omega), List.getElem?_eq_none (by rw [celF_len, List.length_replicate]; omega)]

set_option maxRecDepth 100000 in
set_option maxHeartbeats 4000000 in
theorem new_any (n : Int) (w : World) :
    Calls Try.prog 20 #[.int .i64 n] w (RetS1 w (newN n)) := by
  obtain ⟨i0, hi, hj0, hj1, hj2⟩ := info_parts info_celP
  obtain ⟨i1, hi1, hk0, hk1, hk2⟩ := info_parts info_int
  by_cases h1 : n < 1
  · have HN : Hid (newN n = (([], []), 8)) := Lib.hid (by unfold newN; rw [if_pos (.inl h1)])
    go_enter Try.func20, Try.ntmps20
    go_wp2
    refine bodyPost_ret (v := .tuple #[.agg #[.slice none 0 0, .slice none 0 0], .int .i64 8]) (by simp [results, Try.results20, go_sem]) rfl (RetS1.mk HN.out ⟨(OwnC.nil 63 _ 0).reads, (OwnI.nil _ 0).reads⟩ (OwnI.nil w 0).capOk ?_)
    (repeat (first | (with_reducible exact Below.refl _ _) | ((with_reducible refine below_alloc ?_ ?_ _); · (first | omega | (simp; done) | (simp; omega))) | ((with_reducible refine below_setCell ?_ ?_ _); · (first | omega | (simp; done) | (simp; omega))) | (with_reducible refine Below.drew ?_) | (with_reducible refine below_drewN ?_ _) | ((with_reducible refine below_call (by assumption) ?_ ?_); · (first | omega | (simp; done) | (simp; omega)))))
  · by_cases h2 : 64 < n
    · have HN : Hid (newN n = (([], []), 8)) := Lib.hid (by unfold newN; rw [if_pos (.inr h2)])
      have h1' : 1 ≤ n := by omega
      clear h1
      go_enter Try.func20, Try.ntmps20
      go_wp2
      refine bodyPost_ret (v := .tuple #[.agg #[.slice none 0 0, .slice none 0 0], .int .i64 8]) (by simp [results, Try.results20, go_sem]) rfl (RetS1.mk HN.out ⟨(OwnC.nil 63 _ 0).reads, (OwnI.nil _ 0).reads⟩ (OwnI.nil w 0).capOk ?_)
      (repeat (first | (with_reducible exact Below.refl _ _) | ((with_reducible refine below_alloc ?_ ?_ _); · (first | omega | (simp; done) | (simp; omega))) | ((with_reducible refine below_setCell ?_ ?_ _); · (first | omega | (simp; done) | (simp; omega))) | (with_reducible refine Below.drew ?_) | (with_reducible refine below_drewN ?_ _) | ((with_reducible refine below_call (by assumption) ?_ ?_); · (first | omega | (simp; done) | (simp; omega)))))
    · obtain ⟨N, rfl⟩ : ∃ N : Nat, n = N := ⟨n.toNat, by omega⟩
      have HN : Hid (newN N = ((List.replicate N zeroC, freeL N N), 0)) := Lib.hid (by unfold newN; rw [if_neg (by omega), Int.toNat_natCast])
      have h1' : (1 : Int) ≤ N := by omega
      have h2' : (N : Int) ≤ 64 := by omega
      have hN : N ≤ 64 := by omega
      clear h1 h2
      obtain ⟨M, hM⟩ : ∃ M, M = madeCells (Value.int .i64 0).cells (N * i1.size) := ⟨_, rfl⟩
      have hMs : M.size = N * 1 := by rw [hM, size_madeCells, hk1]
      have hmk : ∀ W : World, (Instr.makeSlice 23 (.int .i64 (N : Int)) (.int .i64 (N : Int))).run Try.prog W = .ok (.slice (some ⟨W.heap.size, 0, none⟩) N N) (W.alloc (.cells M 3)) := fun W => by
        have h := run_make (P := Try.prog) W 23 3 i1 (.int .i64 0) Try.underlying23 hi1 hk0 .i64 .i64 (N : Int) (N : Int) (by omega) (by omega) (by rw [hk2]; omega) (by omega)
        simp only [Int.toNat_natCast] at h
        rw [← hM] at h
        exact h
      obtain ⟨R, hR⟩ : ∃ R, R = madeCells (Value.agg #[.int .i64 0, .bool false, .int .i64 0]).cells (N * i0.size) := ⟨_, rfl⟩
      have hRs : R.size = N * 3 := by rw [hR, size_madeCells, hj1]
      have hRl : R.toList = celF (List.replicate N zeroC) := by
        rw [hR, hj1]; exact made_cel N
      have hmc : ∀ W : World, (Instr.makeSlice 28 (.int .i64 (N : Int)) (.int .i64 (N : Int))).run Try.prog W = .ok (.slice (some ⟨W.heap.size, 0, none⟩) N N) (W.alloc (.cells R 63)) := fun W => by
        have h := run_make (P := Try.prog) W 28 63 i0 (.agg #[.int .i64 0, .bool false, .int .i64 0]) Try.underlying28 hi hj0 .i64 .i64 (N : Int) (N : Int) (by omega) (by omega) (by rw [hj2]; omega) (by omega)
        simp only [Int.toNat_natCast] at h
        rw [← hR] at h
        exact h
      clear hM hR
      have HRl := Lib.hid hRl
      clear hRl
      go_enter Try.func20, Try.ntmps20
      go_wp2
      go_loopw [16] (fun i wr => ∃ k : Nat, i = .int .i64 k ∧ k ≤ N ∧ (∃ xs : List Value, wr.ownsRow (w.heap.size + 1) 3 1 (.slice (some ⟨w.heap.size + 1, 0, none⟩) N N) N xs ∧ ∀ j, j < k → xs[j]? = some (.int .i64 ((N : Int) - 1 - j))) ∧ Below (w.heap.size + 1) (w.alloc (.cells #[.slice none 0 0, .slice none 0 0] 30)) wr) (fun i _ => N - (intOf i).toNat)
      case atStart =>
        refine ⟨0, rfl, by omega, ⟨M.toList, ?_, fun j hj => by omega⟩, ?_⟩
        · have h := World.ownsRow_lit (base := w.heap.size + 1) (e := 3) (size := 1) (w.alloc (.cells #[.slice none 0 0, .slice none 0 0] 30)) M N (by simp) (by unfold maxLen; omega) hMs
          simpa only [World.size_alloc] using h
        · exact (Below.refl _ _).alloc (by simp) _
      case round =>
        obtain ⟨k, rfl, hk, ⟨xs, hown, hxs⟩, hB⟩ := hrel
        have hsz := hB.size
        simp only [World.size_alloc] at hsz
        obtain ⟨hk0', hf0', hz0'⟩ : (∀ o, wr.cell? ⟨w.heap.size, o, none⟩ = (w.alloc (.cells #[.slice none 0 0, .slice none 0 0] 30)).cell? ⟨w.heap.size, o, none⟩) ∧ (∀ o, wr.frozen? ⟨w.heap.size, o, none⟩ = (w.alloc (.cells #[.slice none 0 0, .slice none 0 0] 30)).frozen? ⟨w.heap.size, o, none⟩) ∧ w.heap.size < wr.heap.size := ⟨fun o => hB.cell (p := ⟨w.heap.size, o, none⟩) (by show w.heap.size < _; omega), fun o => hB.frozen (p := ⟨w.heap.size, o, none⟩) (by show w.heap.size < _; omega), by omega⟩
        by_cases hlt : k < N
        · have hlt' : (k : Int) < N := by omega
          have hlen := hown.1
          have c0 := hown.cellAt k (by omega)
          rw [List.getElem?_eq_getElem (by omega)] at c0
          have fz : wr.frozen? ⟨w.heap.size + 1, k, none⟩ = false := by
            rcases hown.2 with ⟨hv, hn⟩ | ⟨g', cap2, cur, hv, hBg, hg, hr⟩
            · exact absurd hv (by simp)
            · cases hv; exact Lib.frozen_of_heap hg k
          obtain ⟨y, hy⟩ : ∃ y, (N : Int) - 1 - k = y := ⟨_, rfl⟩
          have hy0 : 0 ≤ y := by omega
          have hy1 : y ≤ 64 := by omega
          have HO := Lib.hid (And.intro hown hxs)
          have hzz : w.heap.size + 1 < wr.heap.size := World.block_lt_of_cell? _ _ c0
          clear hown hxs
          go_wp2
          go_roundw
          case rel =>
            refine ⟨k + 1, by go_num, by omega, ⟨_, (HO.out.1.stored k (.int .i64 y)).1, fun j hj => ?_⟩, hB.setCell (Nat.le_refl _) _⟩
            by_cases e : j = k
            · subst e; rw [List.getElem?_set_self (by omega), hy]
            · rw [List.getElem?_set_ne (by omega)]; exact HO.out.2 j (by omega)
          case measure => simp [intOf]; omega
        · obtain rfl : k = N := by omega
          have hlen := hown.1
          have hxe : xs = (freeL k k).map (Value.int .i64) := by
            apply List.ext_getElem?
            intro j
            by_cases hj : j < k
            · rw [hxs j hj]; unfold freeL; simp [hj]
            · rw [List.getElem?_eq_none (by omega), List.getElem?_eq_none (by rw [List.length_map, freeL_len]; omega)]
          subst hxe
          have HO := Lib.hid hown
          have hB' : Below w.heap.size w wr := Below.trans ((Below.refl _ _).alloc (Nat.le_refl _) _) (hB.mono (by omega))
          clear hown hxs
          go_wp2
          have hC : ∀ W : World, W.heap.size = wr.heap.size → OwnC 63 (W.alloc (.cells R 63)) (w.heap.size + 1) (.slice (some ⟨wr.heap.size, 0, none⟩) k k) (List.replicate k zeroC) := fun W hW => by
            show World.ownsRow _ _ _ _ _ _ _
            rw [List.length_replicate, ← HRl.out, ← hW]
            exact World.ownsRow_lit W R k (by omega) (by unfold maxLen; omega) hRs
          have hI : OwnI wr (w.heap.size + 1) (.slice (some ⟨w.heap.size + 1, 0, none⟩) k k) (freeL k k) := by
            show World.ownsRow _ _ _ _ _ _ _
            rw [freeL_len]; exact HO.out
          refine bodyPost_ret (v := .tuple #[.agg #[.slice (some ⟨wr.heap.size, 0, none⟩) k k, .slice (some ⟨w.heap.size + 1, 0, none⟩) k k], .int .i64 0]) (by simp [results, Try.results20, go_sem, hk0', hz0']) rfl (RetS1.mk HN.out ⟨(hC _ (by simp only [World.size_setCell])).reads, ((((hI.below ⟨w.heap.size, 0, none⟩ _ (by show w.heap.size < _; omega)).below ⟨w.heap.size, 1, none⟩ _ (by show w.heap.size < _; omega))).call ((Below.refl _ _).alloc (Nat.le_refl _) _)).reads⟩ hI.capOk ?_)
          (repeat (first | (with_reducible exact Below.refl _ _) | ((with_reducible refine below_alloc ?_ ?_ _); · (first | omega | (simp; done) | (simp; omega))) | ((with_reducible refine below_setCell ?_ ?_ _); · (first | omega | (simp; done) | (simp; omega))) | (with_reducible refine Below.drew ?_) | (with_reducible refine below_drewN ?_ _) | ((with_reducible refine below_call (by assumption) ?_ ?_); · (first | omega | (simp; done) | (simp; omega)))))
end Go.Proofs.Ytmnlpmfkoammhaa
