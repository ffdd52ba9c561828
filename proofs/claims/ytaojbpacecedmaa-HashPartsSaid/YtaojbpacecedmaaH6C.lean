/- Layer 6: Spread of both. -/
import Derived.Test.YtaojbpacecedmaaH6B
import Derived.Test.YtaojbpacecedmaaKitS
import Derived.Laws.MakeOwn
namespace Go.Proofs.Ytaojbpacecedmaa
open Go.RowKit
set_option linter.unusedVariables false
set_option linter.unusedSimpArgs false

theorem made_int (n : Nat) : madeCells (Value.int .i64 0).cells n = (List.replicate n (Value.int .i64 0)).toArray := by
  apply Array.toList_inj.1
  apply List.ext_getElem?
  intro j
  by_cases hj : j < n <;> simp [madeCells, Value.cells, hj, Nat.mod_one]
theorem getD_in (c : List Int) (k : Nat) (h : k < c.length) : c.getD k 0 = c[k] := by simp [List.getD, h]
theorem getD_out (c : List Int) (k : Nat) (h : c.length ≤ k) : c.getD k 0 = 0 := by simp [List.getD, List.getElem?_eq_none h]
/-- one more of what stands at k -/
def bump (c : List Int) (k : Nat) : List Int := c.set k (c.getD k 0 + 1)
def slotN (s : ByteArray) (N : Nat) : Nat := (ofL s.data.toList).toNat % N
def spF (L : List ByteArray) (N : Nat) : List Int := L.foldl (fun c s => bump c (slotN s N)) (List.replicate N 0)
theorem spF_snoc (L : List ByteArray) (k : Nat) (h : k < L.length) (N : Nat) : spF (L.take (k + 1)) N = bump (spF (L.take k) N) (slotN L[k] N) := by
  rw [List.take_succ_eq_append_getElem h]; unfold spF; rw [List.foldl_append]; rfl
theorem fold_bd (N : Nat) (L : List ByteArray) (c : List Int) (m : Nat) (h : ∀ x ∈ c, 0 ≤ x ∧ x ≤ m) : (L.foldl (fun c s => bump c (slotN s N)) c).length = c.length ∧ ∀ x ∈ L.foldl (fun c s => bump c (slotN s N)) c, 0 ≤ x ∧ x ≤ (m + L.length : Nat) := by
  induction L generalizing c m with
  | nil => exact ⟨rfl, fun x hx => by have := h x hx; simp; omega⟩
  | cons s L ih =>
    have hb : ∀ x ∈ bump c (slotN s N), 0 ≤ x ∧ x ≤ (m + 1 : Nat) := by
      intro x hx
      rcases List.mem_or_eq_of_mem_set hx with h1 | h1
      · have := h x h1; omega
      · subst h1
        by_cases hl : slotN s N < c.length
        · have := h c[slotN s N] (List.getElem_mem _)
          rw [getD_in _ _ hl]; omega
        · rw [getD_out _ _ (by omega)]; omega
    have h2 := ih (bump c (slotN s N)) (m + 1) hb
    refine ⟨?_, fun x hx => ?_⟩
    · rw [List.foldl_cons, h2.1]; simp [bump]
    · have := h2.2 x hx; simp only [List.length_cons]; omega
theorem spF_len (L : List ByteArray) (N : Nat) : (spF L N).length = N := by
  have := (fold_bd N L (List.replicate N 0) 0 (fun x hx => by have := List.eq_of_mem_replicate hx; omega)).1
  rw [List.length_replicate] at this; exact this
theorem spF_bd (L : List ByteArray) (N : Nat) : ∀ x ∈ spF L N, 0 ≤ x ∧ x ≤ L.length := by
  have := (fold_bd N L (List.replicate N 0) 0 (fun x hx => by have := List.eq_of_mem_replicate hx; omega)).2
  intro x hx; have := this x hx; omega
theorem slotN_lt (s : ByteArray) {N : Nat} (h : 1 ≤ N) : slotN s N < N := Nat.mod_lt _ h
theorem slot_eq (s : ByteArray) {N : Nat} (h : 1 ≤ N) : belowP (ofL s.data.toList) (N : Int) = (slotN s N : Nat) := by
  have h0 := (ofL_bd s.data.toList).1
  rw [belowP_hi (by omega)]
  unfold slotN
  rw [Int.natCast_emod, Int.toNat_of_nonneg h0]
/-- what Spread tells -/
def spreadP (L : List ByteArray) (m : Int) : List Int := if 1 ≤ m ∧ m ≤ 256 then spF L m.toNat else []
theorem spreadP_no {L : List ByteArray} {m : Int} (h : m < 1 ∨ 256 < m) : spreadP L m = [] := by unfold spreadP; rw [if_neg (by omega)]
theorem spreadP_yes {L : List ByteArray} {N : Nat} (h1 : 1 ≤ N) (h2 : N ≤ 256) : spreadP L (N : Int) = spF L N := by unfold spreadP; rw [if_pos (by omega), Int.toNat_natCast]
theorem row_shape {w : World} {B : Nat} {E : TypeId} {z k : Nat} {v : Value} {xs : List Value} (h : w.ownsRow B E z v k xs) : ∃ ao cap, v = .slice ao k cap := by
  rcases h.2 with ⟨hv, hn⟩ | ⟨g, cap, cur, hv, _⟩
  · subst hn; exact ⟨_, _, hv⟩
  · exact ⟨_, _, hv⟩
/-- a call that tells these numbers, in a row of its own -/
def RetL (w : World) (l : List Int) (e : Ending) (w' : World) : Prop := ∃ v, e = .returned v ∧ OwnI w' w.heap.size v l ∧ Below w.heap.size w w'

theorem spread_no (v : Value) (L : List ByteArray) (m : Int) (w : World) (hm : m < 1 ∨ 256 < m) :
    Calls Try.prog 24 #[v, .int .i64 m] w (RetL w (spreadP L m)) := by
  have H := Lib.hid (spreadP_no (L := L) hm)
  by_cases h1 : m < 1
  · clear hm
    go_enter Try.func24, Try.ntmps24
    go_wp2
    go_ret
    exact ⟨_, rfl, by rw [H.out]; exact OwnI.nil _ _, Below.refl _ _⟩
  · have h2 : 256 < m := by omega
    have h1' : 1 ≤ m := by omega
    clear hm
    go_enter Try.func24, Try.ntmps24
    go_wp2
    go_ret
    exact ⟨_, rfl, by rw [H.out]; exact OwnI.nil _ _, Below.refl _ _⟩
set_option maxRecDepth 100000 in
set_option maxHeartbeats 4000000 in
theorem spread_yes (v : Value) (L : List ByteArray) (N : Nat) (w : World) (hv : IsS w v L) (hl : L.length ≤ 1000) (hs : ∀ s ∈ L, s.size ≤ maxLen) (h1 : 1 ≤ N) (h2 : N ≤ 256) :
    Calls Try.prog 24 #[v, .int .i64 N] w (RetL w (spreadP L N)) := by
  obtain ⟨i1, hi1, hk0, hk1, hk2⟩ := info_parts info_int
  obtain ⟨M, hM⟩ : ∃ M, M = madeCells (Value.int .i64 0).cells (N * i1.size) := ⟨_, rfl⟩
  have hM2 : M.toList = (List.replicate N (0 : Int)).map (Value.int .i64) := by rw [hM, hk1, Nat.mul_one, made_int]; simp
  have hM3 : M.size = N * 1 := by rw [← Array.length_toList, hM2]; simp
  have hmk : ∀ W : World, (Instr.makeSlice 37 (.int .i64 (N : Int)) (.int .i64 (N : Int))).run Try.prog W = .ok (.slice (some ⟨W.heap.size, 0, none⟩) N N) (W.alloc (.cells M 3)) := fun W => by
    have h := run_make (P := Try.prog) W 37 3 i1 (.int .i64 0) Try.underlying37 hi1 hk0 .i64 .i64 (N : Int) (N : Int) (by omega) (by omega) (by rw [hk2]; omega) (by omega)
    simp only [Int.toNat_natCast] at h
    rw [← hM] at h
    exact h
  have h1' : (1 : Int) ≤ N := by omega
  have h2' : (N : Int) ≤ 256 := by omega
  obtain ⟨p, cap, rfl, hp⟩ := hv
  have hst : (w.alloc (.cells M 3)).ownsRow w.heap.size 3 1 (.slice (some ⟨w.heap.size, 0, none⟩) N N) N ((spF (L.take 0) N).map (Value.int .i64)) := by
    rw [show spF (L.take 0) N = List.replicate N 0 from rfl, ← hM2]
    exact World.ownsRow_lit w M N (Nat.le_refl _) (by unfold maxLen; omega) hM3
  have Hst := Lib.hid hst
  have Hp := Lib.hid hp
  have Hs := Lib.hid hs
  have HY := Lib.hid (spreadP_yes (L := L) h1 h2)
  clear hM hM2 hM3 hp hst hs
  go_enter Try.func24, Try.ntmps24
  go_wp2
  go_loopw [18] (fun i wr => ∃ k : Nat, i = .int .i64 k ∧ k ≤ L.length ∧ wr.ownsRow w.heap.size 3 1 (.slice (some ⟨w.heap.size, 0, none⟩) N N) N ((spF (L.take k) N).map (Value.int .i64)) ∧ Below w.heap.size w wr) (fun i _ => L.length - (intOf i).toNat)
  case atStart => exact ⟨0, rfl, by omega, Hst.out, by (repeat (first | (with_reducible exact Below.refl _ _) | ((with_reducible refine below_alloc ?_ ?_ _); · (first | omega | (simp; done) | (simp; omega))) | ((with_reducible refine below_setCell ?_ ?_ _); · (first | omega | (simp; done) | (simp; omega))) | (with_reducible refine Below.drew ?_) | (with_reducible refine below_drewN ?_ _) | ((with_reducible refine below_call (by assumption) ?_ ?_); · (first | omega | (simp; done) | (simp; omega)))))⟩
  case round =>
    obtain ⟨k, rfl, hk, hown, hB⟩ := hrel
    by_cases hlt : k < L.length
    · have hlt' : (k : Int) < L.length := by omega
      obtain ⟨b, off, rfl, d⟩ := Hp.out k hlt
      have c1 : wr.cell? ⟨b, off + k, none⟩ = some (.string L[k]) := (hB.cell (p := ⟨b, off + k, none⟩) (World.block_lt_of_cell? _ _ d)).trans d
      clear d
      have hss := Hs.out L[k] (List.getElem_mem _)
      have hsn := spF_snoc L k hlt N
      obtain ⟨s, hse⟩ : ∃ s, L[k] = s := ⟨_, rfl⟩
      rw [hse] at c1 hss hsn
      obtain ⟨C, hC⟩ : ∃ C, spF (L.take k) N = C := ⟨_, rfl⟩
      have hCl := spF_len (L.take k) N
      have hCb := spF_bd (L.take k) N
      rw [hC] at hown hsn hCl hCb
      have hr := slotN_lt s h1
      have q1 := fun W => of_any s W hss
      have q2 := fun W => slot_any (ofL s.data.toList) (N : Int) W (ofL_bd _).1 (ofL_bd _).2 (by omega)
      rw [slot_eq s h1] at q2
      obtain ⟨r, hre⟩ : ∃ r, slotN s N = r := ⟨_, rfl⟩
      rw [hre] at hr q2 hsn
      have hrC : r < C.length := by omega
      have hrI : (r : Int) < N := by omega
      have cr : wr.cell? ⟨w.heap.size, r, none⟩ = some (.int .i64 C[r]) := by rw [hown.cellAt r (by omega)]; simp [hrC]
      have fr := hown.frozenAt r
      have hx := hCb C[r] (List.getElem_mem _)
      have hlk : (L.take k).length ≤ 1000 := by have := List.length_take_le k L; omega
      have hst := (hown.stored r (.int .i64 (C[r] + 1))).1
      have hbp : (C.map (Value.int .i64)).set r (.int .i64 (C[r] + 1)) = (bump C r).map (Value.int .i64) := by
        unfold bump; rw [List.map_set, getD_in _ _ hrC]
      rw [hbp, ← hsn] at hst
      obtain ⟨x, hxe⟩ : ∃ x, C[r] = x := ⟨_, rfl⟩
      rw [hxe] at cr hx hst
      have hx0 : 0 ≤ x := hx.1
      have hx1 : x ≤ 1000 := by omega
      have HO := Lib.hid hst
      clear hown hst hbp hsn hCl hCb hC hre hse hxe hrC hx hlk hss
      go_wp2_with fail
      refine (q1 _).mono ?_; rintro e w1 ⟨rfl, rfl⟩
      go_wp2_with fail
      refine (q2 _).mono ?_; rintro e w2 ⟨rfl, rfl⟩
      go_wp2_with fail
      go_roundw
      case rel => exact ⟨k + 1, by go_num, by omega, HO.out, by (repeat (first | (with_reducible exact Below.refl _ _) | ((with_reducible refine below_alloc ?_ ?_ _); · (first | omega | (simp; done) | (simp; omega))) | ((with_reducible refine below_setCell ?_ ?_ _); · (first | omega | (simp; done) | (simp; omega))) | (with_reducible refine Below.drew ?_) | (with_reducible refine below_drewN ?_ _) | ((with_reducible refine below_call (by assumption) ?_ ?_); · (first | omega | (simp; done) | (simp; omega)))))⟩
      case measure => simp [intOf]; omega
    · obtain rfl : k = L.length := by omega
      rw [List.take_length] at hown
      have HO := Lib.hid hown
      clear hown
      go_wp2
      go_ret
      refine ⟨_, rfl, ?_, hB⟩
      rw [HY.out]
      unfold OwnI
      rw [spF_len]
      exact HO.out
theorem spread_any (v : Value) (L : List ByteArray) (m : Int) (w : World) (hv : IsS w v L) (hl : L.length ≤ 1000) (hs : ∀ s ∈ L, s.size ≤ maxLen) :
    Calls Try.prog 24 #[v, .int .i64 m] w (RetL w (spreadP L m)) := by
  by_cases h : m < 1 ∨ 256 < m
  · exact spread_no v L m w h
  · obtain ⟨N, rfl⟩ : ∃ N : Nat, m = N := ⟨m.toNat, by omega⟩
    exact spread_yes v L N w hv hl hs (by omega) (by omega)

theorem spreadD_no (v : Value) (L : List ByteArray) (m : Int) (w : World) (hm : m < 1 ∨ 256 < m) :
    Calls Try.prog 25 #[v, .int .i64 m] w (RetL w (spreadP L m)) := by
  have H := Lib.hid (spreadP_no (L := L) hm)
  by_cases h1 : m < 1
  · clear hm
    go_enter Try.func25, Try.ntmps25
    go_wp2
    go_ret
    exact ⟨_, rfl, by rw [H.out]; exact OwnI.nil _ _, Below.refl _ _⟩
  · have h2 : 256 < m := by omega
    have h1' : 1 ≤ m := by omega
    clear hm
    go_enter Try.func25, Try.ntmps25
    go_wp2
    go_ret
    exact ⟨_, rfl, by rw [H.out]; exact OwnI.nil _ _, Below.refl _ _⟩
set_option maxRecDepth 100000 in
set_option maxHeartbeats 4000000 in
theorem spreadD_yes (v : Value) (L : List ByteArray) (N : Nat) (w : World) (hv : IsS w v L) (hl : L.length ≤ 1000) (hs : ∀ s ∈ L, s.size ≤ maxLen) (h1 : 1 ≤ N) (h2 : N ≤ 256) :
    Calls Try.prog 25 #[v, .int .i64 N] w (RetL w (spreadP L N)) := by
  obtain ⟨i1, hi1, hk0, hk1, hk2⟩ := info_parts info_int
  obtain ⟨M, hM⟩ : ∃ M, M = madeCells (Value.int .i64 0).cells (N * i1.size) := ⟨_, rfl⟩
  have hM2 : M.toList = (List.replicate N (0 : Int)).map (Value.int .i64) := by rw [hM, hk1, Nat.mul_one, made_int]; simp
  have hM3 : M.size = N * 1 := by rw [← Array.length_toList, hM2]; simp
  have hmk : ∀ W : World, (Instr.makeSlice 37 (.int .i64 (N : Int)) (.int .i64 (N : Int))).run Try.prog W = .ok (.slice (some ⟨W.heap.size, 0, none⟩) N N) (W.alloc (.cells M 3)) := fun W => by
    have h := run_make (P := Try.prog) W 37 3 i1 (.int .i64 0) Try.underlying37 hi1 hk0 .i64 .i64 (N : Int) (N : Int) (by omega) (by omega) (by rw [hk2]; omega) (by omega)
    simp only [Int.toNat_natCast] at h
    rw [← hM] at h
    exact h
  have h1' : (1 : Int) ≤ N := by omega
  have h2' : (N : Int) ≤ 256 := by omega
  obtain ⟨p, cap, rfl, hp⟩ := hv
  have hst : (w.alloc (.cells M 3)).ownsRow w.heap.size 3 1 (.slice (some ⟨w.heap.size, 0, none⟩) N N) N ((spF (L.take 0) N).map (Value.int .i64)) := by
    rw [show spF (L.take 0) N = List.replicate N 0 from rfl, ← hM2]
    exact World.ownsRow_lit w M N (Nat.le_refl _) (by unfold maxLen; omega) hM3
  have Hst := Lib.hid hst
  have Hp := Lib.hid hp
  have Hs := Lib.hid hs
  have HY := Lib.hid (spreadP_yes (L := L) h1 h2)
  clear hM hM2 hM3 hp hst hs
  go_enter Try.func25, Try.ntmps25
  go_wp2
  go_loopw [6] (fun i wr => ∃ k : Nat, i = .int .i64 k ∧ k ≤ L.length ∧ wr.ownsRow w.heap.size 3 1 (.slice (some ⟨w.heap.size, 0, none⟩) N N) N ((spF (L.take k) N).map (Value.int .i64)) ∧ Below w.heap.size w wr) (fun i _ => L.length - (intOf i).toNat)
  case atStart => exact ⟨0, rfl, by omega, Hst.out, by (repeat (first | (with_reducible exact Below.refl _ _) | ((with_reducible refine below_alloc ?_ ?_ _); · (first | omega | (simp; done) | (simp; omega))) | ((with_reducible refine below_setCell ?_ ?_ _); · (first | omega | (simp; done) | (simp; omega))) | (with_reducible refine Below.drew ?_) | (with_reducible refine below_drewN ?_ _) | ((with_reducible refine below_call (by assumption) ?_ ?_); · (first | omega | (simp; done) | (simp; omega)))))⟩
  case round =>
    obtain ⟨k, rfl, hk, hown, hB⟩ := hrel
    by_cases hlt : k < L.length
    · have hlt' : (k : Int) < L.length := by omega
      obtain ⟨b, off, rfl, d⟩ := Hp.out k hlt
      have c1 : wr.cell? ⟨b, off + k, none⟩ = some (.string L[k]) := (hB.cell (p := ⟨b, off + k, none⟩) (World.block_lt_of_cell? _ _ d)).trans d
      clear d
      have hss := Hs.out L[k] (List.getElem_mem _)
      have hsn := spF_snoc L k hlt N
      obtain ⟨s, hse⟩ : ∃ s, L[k] = s := ⟨_, rfl⟩
      rw [hse] at c1 hss hsn
      obtain ⟨C, hC⟩ : ∃ C, spF (L.take k) N = C := ⟨_, rfl⟩
      have hCl := spF_len (L.take k) N
      have hCb := spF_bd (L.take k) N
      rw [hC] at hown hsn hCl hCb
      have hr := slotN_lt s h1
      have q1 := fun W => ofD_any s W hss
      have q2 := fun W => slotD_any (ofL s.data.toList) (N : Int) W (ofL_bd _).1 (ofL_bd _).2 (by omega)
      rw [slot_eq s h1] at q2
      obtain ⟨r, hre⟩ : ∃ r, slotN s N = r := ⟨_, rfl⟩
      rw [hre] at hr q2 hsn
      have hrC : r < C.length := by omega
      have hrI : (r : Int) < N := by omega
      have cr : wr.cell? ⟨w.heap.size, r, none⟩ = some (.int .i64 C[r]) := by rw [hown.cellAt r (by omega)]; simp [hrC]
      have fr := hown.frozenAt r
      have hx := hCb C[r] (List.getElem_mem _)
      have hlk : (L.take k).length ≤ 1000 := by have := List.length_take_le k L; omega
      have hst := (hown.stored r (.int .i64 (C[r] + 1))).1
      have hbp : (C.map (Value.int .i64)).set r (.int .i64 (C[r] + 1)) = (bump C r).map (Value.int .i64) := by
        unfold bump; rw [List.map_set, getD_in _ _ hrC]
      rw [hbp, ← hsn] at hst
      obtain ⟨x, hxe⟩ : ∃ x, C[r] = x := ⟨_, rfl⟩
      rw [hxe] at cr hx hst
      have hx0 : 0 ≤ x := hx.1
      have hx1 : x ≤ 1000 := by omega
      have HO := Lib.hid hst
      clear hown hst hbp hsn hCl hCb hC hre hse hxe hrC hx hlk hss
      go_wp2_with fail
      refine (q1 _).mono ?_; rintro e w1 ⟨rfl, rfl⟩
      go_wp2_with fail
      refine (q2 _).mono ?_; rintro e w2 ⟨rfl, rfl⟩
      go_wp2_with fail
      go_roundw
      case rel => exact ⟨k + 1, by go_num, by omega, HO.out, by (repeat (first | (with_reducible exact Below.refl _ _) | ((with_reducible refine below_alloc ?_ ?_ _); · (first | omega | (simp; done) | (simp; omega))) | ((with_reducible refine below_setCell ?_ ?_ _); · (first | omega | (simp; done) | (simp; omega))) | (with_reducible refine Below.drew ?_) | (with_reducible refine below_drewN ?_ _) | ((with_reducible refine below_call (by assumption) ?_ ?_); · (first | omega | (simp; done) | (simp; omega)))))⟩
      case measure => simp [intOf]; omega
    · obtain rfl : k = L.length := by omega
      rw [List.take_length] at hown
      have HO := Lib.hid hown
      clear hown
      go_wp2
      go_ret
      refine ⟨_, rfl, ?_, hB⟩
      rw [HY.out]
      unfold OwnI
      rw [spF_len]
      exact HO.out
theorem spreadD_any (v : Value) (L : List ByteArray) (m : Int) (w : World) (hv : IsS w v L) (hl : L.length ≤ 1000) (hs : ∀ s ∈ L, s.size ≤ maxLen) :
    Calls Try.prog 25 #[v, .int .i64 m] w (RetL w (spreadP L m)) := by
  by_cases h : m < 1 ∨ 256 < m
  · exact spreadD_no v L m w h
  · obtain ⟨N, rfl⟩ : ∃ N : Nat, m = N := ⟨m.toNat, by omega⟩
    exact spreadD_yes v L N w hv hl hs (by omega) (by omega)
end Go.Proofs.Ytaojbpacecedmaa
