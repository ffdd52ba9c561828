/- Layer 7, the program's: contracts: New, Slots, Clear. -/
import Derived.Test.YtaenbnohkhmnbaaT7E
import Derived.Test.YtaenbnohkhmnbaaKitS
import Derived.Laws.MakeOwn
namespace Go.Proofs.Ytaenbnohkhmnbaa
open Go.RowKit
set_option linter.unusedVariables false
set_option linter.unusedSimpArgs false

theorem info_slot : (Try.prog.info? 62).map (fun i => (i.zero, i.size, i.bytes)) = some (some (.agg #[.string ⟨#[]⟩, .int .i64 0, .bool false]), 3, 32) := by kernel_rfl
def zSlot : Array Value := #[.string ⟨#[]⟩, .int .i64 0, .bool false]
theorem zero_at (N : Nat) : (Builtin.zeroCells zSlot N).size = N * 3 ∧ ∀ i (h : i < N * 3), (Builtin.zeroCells zSlot N)[i]? = some (zSlot[i % 3]!) := by
  constructor
  · simp [Builtin.zeroCells, zSlot]
  · intro i h
    simp [Builtin.zeroCells, zSlot, h]
theorem made_at (N : Nat) : (madeCells zSlot (N * 3)).size = N * 3 ∧ ∀ i (h : i < N * 3), (madeCells zSlot (N * 3))[i]? = some (zSlot[i % 3]!) := by
  constructor
  · simp [madeCells]
  · intro i h
    simp [madeCells, zSlot, h]
theorem z_at (j : Nat) : zSlot[(j * 3) % 3]! = .string ⟨#[]⟩ ∧ zSlot[(j * 3 + 1) % 3]! = .int .i64 0 ∧ zSlot[(j * 3 + 2) % 3]! = .bool false := by
  rw [show (j * 3) % 3 = 0 by omega, show (j * 3 + 1) % 3 = 1 by omega, show (j * 3 + 2) % 3 = 2 by omega]
  exact ⟨rfl, rfl, rfl⟩
theorem zeroSlot (w : World) : (zeroValue 62).run Try.prog w = .ok (.agg #[.string ⟨#[]⟩, .int .i64 0, .bool false]) w := by kernel_rfl

abbrev noSl : Nat → Sl := fun _ => none
theorem new_no (n : Int) (w : World) (hn : n < 2 ∨ 256 < n) : Calls Try.prog 15 #[.int .i64 n] w fun e w' => e = .returned (.tuple #[.pointer none, .int .i64 8]) ∧ Below w.heap.size w w' := by
  by_cases h1 : n < 2
  · clear hn
    go_enter Try.func15, Try.ntmps15
    go_wp2
    go_ret2
    exact ⟨rfl, by (repeat (first | (with_reducible exact Below.refl _ _) | ((with_reducible refine below_alloc ?_ ?_ _); · (first | omega | (simp; done) | (simp; omega))) | ((with_reducible refine below_setCell ?_ ?_ _); · (first | omega | (simp; done) | (simp; omega))) | (with_reducible refine Below.drew ?_) | (with_reducible refine below_drewN ?_ _) | ((with_reducible refine below_call (by assumption) ?_ ?_); · (first | omega | (simp; done) | (simp; omega)))))⟩
  · have h2 : 256 < n := by omega
    clear hn
    go_enter Try.func15, Try.ntmps15
    go_wp2
    go_ret2
    exact ⟨rfl, by (repeat (first | (with_reducible exact Below.refl _ _) | ((with_reducible refine below_alloc ?_ ?_ _); · (first | omega | (simp; done) | (simp; omega))) | ((with_reducible refine below_setCell ?_ ?_ _); · (first | omega | (simp; done) | (simp; omega))) | (with_reducible refine Below.drew ?_) | (with_reducible refine below_drewN ?_ _) | ((with_reducible refine below_call (by assumption) ?_ ?_); · (first | omega | (simp; done) | (simp; omega)))))⟩
theorem new_yes (N : Nat) (w : World) (h1 : 2 ≤ N) (h2 : N ≤ 256) : Calls Try.prog 15 #[.int .i64 N] w fun e w' => ∃ g h, e = .returned (.tuple #[ptrV g, .int .i64 0]) ∧ LieT w' g h N 0 noSl ∧ w.heap.size ≤ g ∧ w.heap.size ≤ h ∧ Below w.heap.size w w' := by
  obtain ⟨i1, hi1, hk0, hk1, hk2⟩ := info_parts info_slot
  obtain ⟨M, hM⟩ : ∃ M, M = madeCells (Value.agg #[.string ⟨#[]⟩, .int .i64 0, .bool false]).cells (N * i1.size) := ⟨_, rfl⟩
  have hM2 : M = madeCells zSlot (N * 3) := by rw [hM, hk1]; congr 1
  have hmk : ∀ W : World, (Instr.makeSlice 57 (.int .i64 (N : Int)) (.int .i64 (N : Int))).run Try.prog W = .ok (.slice (some ⟨W.heap.size, 0, none⟩) N N) (W.alloc (.cells M 62)) := fun W => by
    have h := run_make (P := Try.prog) W 57 62 i1 (.agg #[.string ⟨#[]⟩, .int .i64 0, .bool false]) Try.underlying57 hi1 hk0 .i64 .i64 (N : Int) (N : Int) (by omega) (by omega) (by rw [hk2]; omega) (by omega)
    simp only [Int.toNat_natCast] at h
    rw [← hM] at h
    exact h
  have h1' : (2 : Int) ≤ N := by omega
  have h2' : (N : Int) ≤ 256 := by omega
  have HM := Lib.hid hM2
  clear hM hM2
  go_enter Try.func15, Try.ntmps15
  go_wp2
  go_ret2
  refine ⟨w.heap.size + 1, w.heap.size, ?_, ?_, by omega, by omega, by (repeat (first | (with_reducible exact Below.refl _ _) | ((with_reducible refine below_alloc ?_ ?_ _); · (first | omega | (simp; done) | (simp; omega))) | ((with_reducible refine below_setCell ?_ ?_ _); · (first | omega | (simp; done) | (simp; omega))) | (with_reducible refine Below.drew ?_) | (with_reducible refine below_drewN ?_ _) | ((with_reducible refine below_call (by assumption) ?_ ?_); · (first | omega | (simp; done) | (simp; omega)))))⟩
  · first | rfl | (simp; done)
  · have hcell : ∀ j, j < N → M[j * 3]? = some (Value.string ⟨#[]⟩) ∧ M[j * 3 + 1]? = some (Value.int .i64 0) ∧ M[j * 3 + 2]? = some (Value.bool false) := fun j hj => by
      rw [HM.out, (made_at N).2 _ (by omega), (made_at N).2 _ (by omega), (made_at N).2 _ (by omega), (z_at j).1, (z_at j).2.1, (z_at j).2.2]
      exact ⟨rfl, rfl, rfl⟩
    refine ⟨by omega, ?_, ?_, ?_, ?_, ?_, ?_, ?_, ⟨h1, h2⟩, by omega, fun j hj => Nat.zero_le _⟩
    · simp [go_sem]
    · simp [go_sem]
    · intro o; simp [go_sem]
    · intro j hj
      have := (hcell j hj).1
      simp [go_sem]
      exact this
    · intro j hj
      have := (hcell j hj).2.1
      simp [go_sem]
      exact this
    · intro j hj
      have := (hcell j hj).2.2
      simp [go_sem]
      exact this
    · intro j; simp [go_sem]

theorem clear_run (W : World) (h N : Nat) (ty : TypeId) (hN : 0 < N) (hc : ∀ j, j < N * 3 → (W.cell? ⟨h, j, none⟩).isSome = true) (hf : ∀ j, W.frozen? ⟨h, j, none⟩ = false) :
    (Builtin.clear_ #[57] ty #[.slice (some ⟨h, 0, none⟩) N N]).run Try.prog W = .ok (.tuple #[]) (W.setCells h 0 (Builtin.zeroCells zSlot N).toList) := by
  have hl : (Builtin.zeroCells zSlot N).toList.length = N * 3 := by simpa using (zero_at N).1
  have hst := run_storeCells_cells (P := Try.prog) h 0 (Builtin.zeroCells zSlot N).toList 0 W (by intro j hj; simpa using hc j (by omega)) (by intro j hj; simpa using hf j) (by
    intro v hv
    obtain ⟨i, hi, rfl⟩ := List.mem_iff_getElem.1 hv
    have e := (zero_at N).2 i (by omega)
    rw [Array.getElem?_eq_getElem (by simpa using hi)] at e
    rw [Array.getElem_toList, Option.some.inj e]
    have hm : i % 3 = 0 ∨ i % 3 = 1 ∨ i % 3 = 2 := by omega
    rcases hm with h | h | h <;> rw [h] <;> rfl)
  simp only [Nat.add_zero] at hst
  obtain ⟨m, rfl⟩ : ∃ m, N = m + 1 := ⟨N - 1, by omega⟩
  have hz : (Value.agg #[.string ⟨#[]⟩, .int .i64 0, .bool false]).cells = zSlot := by simp [Value.cells, zSlot]
  simp [Builtin.clear_, run_underlying Try.underlying57, zeroSlot, hz, hst]
theorem LieT.wipe {w : World} {g h N K : Nat} {c : Nat → Sl} (H : LieT w g h N K c) : LieT (w.setCells h 0 (Builtin.zeroCells zSlot N).toList) g h N K noSl := by
  have hl : (Builtin.zeroCells zSlot N).toList.length = N * 3 := by simpa using (zero_at N).1
  have hcs : ∀ j, j < N * 3 → (w.cell? ⟨h, j, none⟩).isSome = true := fun j hj => by
    have hq : j / 3 < N := by omega
    have hm : j = j / 3 * 3 ∨ j = j / 3 * 3 + 1 ∨ j = j / 3 * 3 + 2 := by omega
    rcases hm with e | e | e
    · rw [e, H.k0 _ hq]; rfl
    · rw [e, H.k1 _ hq]; rfl
    · rw [e, H.k2 _ hq]; rfl
  have hin : ∀ i, i < N * 3 → (w.setCells h 0 (Builtin.zeroCells zSlot N).toList).cell? ⟨h, i, none⟩ = some (zSlot[i % 3]!) := fun i hi => by
    have h1 := World.cell?_setCells_in h (Builtin.zeroCells zSlot N).toList 0 w (fun j hj => by rw [Nat.zero_add]; exact hcs j (by omega)) i (by omega)
    rw [Nat.zero_add] at h1
    rw [h1, ← (zero_at N).2 i hi]
    simp
  exact { H with
    c0 := by rw [World.cell?_setCells_out _ _ _ _ _ (fun e => absurd e H.ne)]; exact H.c0
    c1 := by rw [World.cell?_setCells_out _ _ _ _ _ (fun e => absurd e H.ne)]; exact H.c1
    fr := fun o => by rw [World.frozen?_setCells]; exact H.fr o
    k0 := fun j hj => by rw [hin _ (by omega), (z_at j).1]; rfl
    k1 := fun j hj => by rw [hin _ (by omega), (z_at j).2.1]; rfl
    k2 := fun j hj => by rw [hin _ (by omega), (z_at j).2.2]; rfl
    fs := fun j => by rw [World.frozen?_setCells]; exact H.fs j
    ks := fun j hj => Nat.zero_le _ }
theorem clear_any (g h N K : Nat) (c : Nat → Sl) (w : World) (H : LieT w g h N K c) :
    Calls Try.prog 23 #[ptrV g] w fun e w' => e = .returned (.tuple #[]) ∧ LieT w' g h N 0 noSl ∧ But2 w w' g h := by
  have c0 := H.c0
  have hN := H.hN
  have HW := Lib.hid H.wipe
  have e1 := HW.out.c1
  have fr := HW.out.fr
  have hcl := fun ty => clear_run w h N ty (by omega) (fun j hj => by
    have hq : j / 3 < N := by omega
    have hm : j = j / 3 * 3 ∨ j = j / 3 * 3 + 1 ∨ j = j / 3 * 3 + 2 := by omega
    rcases hm with e | e | e
    · rw [e, H.k0 _ hq]; rfl
    · rw [e, H.k1 _ hq]; rfl
    · rw [e, H.k2 _ hq]; rfl) H.fs
  have HK := Lib.hid (HW.out.setK 0 (by omega))
  clear H
  go_enter Try.func23, Try.ntmps23
  go_wp2_with (simp only [hcl])
  go_end0
  exact ⟨rfl, HK.out, ((But2.refl w g h).setCells _ _).set _ (.inl rfl)⟩
theorem clear_nil (w : World) : Calls Try.prog 23 #[.pointer none] w fun e w' => e = .returned (.tuple #[]) ∧ Below w.heap.size w w' := by
  go_enter Try.func23, Try.ntmps23
  go_wp2
  (try simp only [Exit.inBlock, Exit.then])
  refine bodyPost_ret (results_none rfl _ _ _) rfl ?_
  exact ⟨rfl, by (repeat (first | (with_reducible exact Below.refl _ _) | ((with_reducible refine below_alloc ?_ ?_ _); · (first | omega | (simp; done) | (simp; omega))) | ((with_reducible refine below_setCell ?_ ?_ _); · (first | omega | (simp; done) | (simp; omega))) | (with_reducible refine Below.drew ?_) | (with_reducible refine below_drewN ?_ _) | ((with_reducible refine below_call (by assumption) ?_ ?_); · (first | omega | (simp; done) | (simp; omega)))))⟩

/-- the slots' keys, so many of them -/
def keysTo (c : Nat → Sl) (N k : Nat) : List ByteArray := (List.range N).map fun j => if j < k then keyO (c j) else ⟨#[]⟩
def keysL (c : Nat → Sl) (N : Nat) : List ByteArray := (List.range N).map fun j => keyO (c j)
theorem keysL_len (c : Nat → Sl) (N : Nat) : (keysL c N).length = N := by simp [keysL]
theorem keysL_at (c : Nat → Sl) (N j : Nat) (h : j < (keysL c N).length) : (keysL c N)[j] = keyO (c j) := by simp [keysL]
theorem keysTo_len (c : Nat → Sl) (N k : Nat) : (keysTo c N k).length = N := by simp [keysTo]
theorem keysTo_zero (c : Nat → Sl) (N : Nat) : keysTo c N 0 = List.replicate N ⟨#[]⟩ := by
  refine List.ext_getElem (by simp [keysTo]) fun i h1 h2 => by simp [keysTo]
theorem keysTo_full (c : Nat → Sl) (N : Nat) : keysTo c N N = keysL c N := by
  refine List.ext_getElem (by simp [keysTo, keysL]) fun i h1 h2 => ?_
  have : i < N := by simpa [keysTo] using h1
  simp [keysTo, keysL, this]
theorem keysTo_at (c : Nat → Sl) (N k i : Nat) (h : i < (keysTo c N k).length) : (keysTo c N k)[i] = if i < k then keyO (c i) else ⟨#[]⟩ := by simp [keysTo]
theorem keysTo_set (c : Nat → Sl) (N k : Nat) : (keysTo c N k).set k (keyO (c k)) = keysTo c N (k + 1) := by
  refine List.ext_getElem (by simp [keysTo]) fun i h1 h2 => ?_
  rw [List.getElem_set, keysTo_at, keysTo_at]
  split
  · rename_i e; subst e; rw [if_pos (by omega)]
  · rename_i e
    by_cases hlt : i < k
    · rw [if_pos hlt, if_pos (by omega)]
    · rw [if_neg hlt, if_neg (by omega)]
theorem made_str (n : Nat) : (madeCells (Value.string ⟨#[]⟩).cells n).toList = (List.replicate n (⟨#[]⟩ : ByteArray)).map Value.string := by
  have hz : (Value.string ⟨#[]⟩).cells = #[.string ⟨#[]⟩] := by simp [Value.cells]
  rw [hz]
  refine List.ext_getElem (by simp [madeCells]) fun i h1 h2 => ?_
  simp [madeCells, Nat.mod_one]
set_option maxRecDepth 100000 in
set_option maxHeartbeats 4000000 in
theorem slots_any (g h N K : Nat) (c : Nat → Sl) (w : World) (H : LieT w g h N K c) :
    Calls Try.prog 12 #[ptrV g] w fun e w' => ∃ v, e = .returned v ∧ OwnS w' w.heap.size v (keysL c N) ∧ Below w.heap.size w w' := by
  obtain ⟨i1, hi1, hk0, hk1, hk2⟩ := info_parts info_str
  have hN := H.hN
  obtain ⟨M, hM⟩ : ∃ M, M = madeCells (Value.string ⟨#[]⟩).cells (N * i1.size) := ⟨_, rfl⟩
  have hM2 : M.toList = (keysTo c N 0).map Value.string := by rw [hM, hk1, Nat.mul_one, made_str, keysTo_zero]
  have hM3 : M.size = N * 1 := by rw [← Array.length_toList, hM2]; simp [keysTo]
  have hmk : ∀ W : World, (Instr.makeSlice 32 (.int .i64 (N : Int)) (.int .i64 (N : Int))).run Try.prog W = .ok (.slice (some ⟨W.heap.size, 0, none⟩) N N) (W.alloc (.cells M 9)) := fun W => by
    have h := run_make (P := Try.prog) W 32 9 i1 (.string ⟨#[]⟩) Try.underlying32 hi1 hk0 .i64 .i64 (N : Int) (N : Int) (by omega) (by omega) (by rw [hk2]; omega) (by omega)
    simp only [Int.toNat_natCast] at h
    rw [← hM] at h
    exact h
  have hst : (w.alloc (.cells M 9)).ownsRow w.heap.size 9 1 (.slice (some ⟨w.heap.size, 0, none⟩) N N) N ((keysTo c N 0).map Value.string) := by
    rw [← hM2]
    exact World.ownsRow_lit w M N (Nat.le_refl _) (by unfold maxLen; omega) hM3
  have Hst := Lib.hid hst
  have HC := Lib.hid H
  have hgl := H.ltg
  have hhl := H.lth
  have c0 := H.c0
  have hN1 : (1 : Int) ≤ N := by omega
  have hN2 : (N : Int) ≤ 256 := by omega
  clear hM hM2 hM3 hst H
  go_enter Try.func12, Try.ntmps12
  go_wp2
  go_loopw [19] (fun i wr => ∃ k : Nat, i = .int .i64 k ∧ k ≤ N ∧ wr.ownsRow w.heap.size 9 1 (.slice (some ⟨w.heap.size, 0, none⟩) N N) N ((keysTo c N k).map Value.string) ∧ Below w.heap.size w wr ∧ w.heap.size < wr.heap.size) (fun i _ => N - (intOf i).toNat)
  case atStart => exact ⟨0, rfl, by omega, Hst.out, by (repeat (first | (with_reducible exact Below.refl _ _) | ((with_reducible refine below_alloc ?_ ?_ _); · (first | omega | (simp; done) | (simp; omega))) | ((with_reducible refine below_setCell ?_ ?_ _); · (first | omega | (simp; done) | (simp; omega))) | (with_reducible refine Below.drew ?_) | (with_reducible refine below_drewN ?_ _) | ((with_reducible refine below_call (by assumption) ?_ ?_); · (first | omega | (simp; done) | (simp; omega))))), by simp⟩
  case round =>
    clear Hst
    obtain ⟨k, rfl, hk, hown, hB, hz⟩ := hrel
    by_cases hlt : k < N
    · have hlt' : (k : Int) < N := by omega
      have HW := HC.out.call hB
      have k0 := HW.k0 k hlt
      have k1 := HW.k1 k hlt
      have k2 := HW.k2 k hlt
      have c0 := HW.c0
      have cr : ∃ s : ByteArray, wr.cell? ⟨w.heap.size, k, none⟩ = some (.string s) := ⟨(keysTo c N k)[k]'(by rw [keysTo_len]; exact hlt), by rw [hown.cellAt k (by omega)]; simp [keysTo_len, hlt]⟩
      obtain ⟨s0, cr⟩ := cr
      have fr := hown.frozenAt k
      have hS := Lib.hid (show ∀ o : Obj, ((wr.setCell ⟨w.heap.size, k, none⟩ (.string (keyO (c k)))).alloc o).ownsRow w.heap.size 9 1 (.slice (some ⟨w.heap.size, 0, none⟩) N N) N ((keysTo c N (k + 1)).map Value.string) from fun o => by
        have h := (hown.stored k (.string (keyO (c k)))).1
        rw [← List.map_set, keysTo_set] at h
        exact h.alloc o)
      have hB2 := Lib.hid (show ∀ o : Obj, Below w.heap.size w ((wr.setCell ⟨w.heap.size, k, none⟩ (.string (keyO (c k)))).alloc o) from fun o => (below_setCell (by show _ ≤ w.heap.size; omega) hB _).alloc (by simp only [World.size_setCell]; omega) o)
      have HO := Lib.hid hown
      have HBB := Lib.hid hB
      clear HW hown
      go_wp2
      go_roundw
      case rel => exact ⟨k + 1, by go_num, by omega, hS.out _, hB2.out _, by simp; omega⟩
      case measure => simp [intOf]; omega
    · obtain rfl : k = N := by omega
      rw [keysTo_full] at hown
      have HO := Lib.hid hown
      clear hown
      go_wp2
      go_ret
      refine ⟨_, rfl, ?_, hB⟩
      unfold OwnS
      rw [keysL_len]
      exact HO.out
theorem slots_nil (w : World) : Calls Try.prog 12 #[.pointer none] w fun e w' => e = .returned (.slice none 0 0) ∧ Below w.heap.size w w' := by
  go_enter Try.func12, Try.ntmps12
  go_wp2
  go_ret
  exact ⟨rfl, by (repeat (first | (with_reducible exact Below.refl _ _) | ((with_reducible refine below_alloc ?_ ?_ _); · (first | omega | (simp; done) | (simp; omega))) | ((with_reducible refine below_setCell ?_ ?_ _); · (first | omega | (simp; done) | (simp; omega))) | (with_reducible refine Below.drew ?_) | (with_reducible refine below_drewN ?_ _) | ((with_reducible refine below_call (by assumption) ?_ ?_); · (first | omega | (simp; done) | (simp; omega)))))⟩
end Go.Proofs.Ytaenbnohkhmnbaa
