/- Layer 15, the program's (a wheel whose slots are maps): Load, Len, Now, Next; those of nobody. -/
import Derived.Test.YtcanaadcjipfjaaW15Q
import Derived.Test.YtcanaadcjipfjaaKitI
import Derived.LoopN
namespace Go.Proofs.Ytcanaadcjipfjaa
open Go.RowKit
set_option linter.unusedVariables false
set_option linter.unusedSimpArgs false

/-- how many the first k slots hold, and zeros behind them -/
def halfW (N : Nat) (l : List Du) (k : Nat) : List Int := (List.range k).map (fun j => ((slotL N l j).length : Int)) ++ List.replicate (N - k) 0
theorem halfW_len {N : Nat} {l : List Du} {k : Nat} (h : k ≤ N) : (halfW N l k).length = N := by
  unfold halfW
  rw [List.length_append, List.length_map, List.length_range, List.length_replicate]
  omega
theorem halfW_next {N : Nat} {l : List Du} {k : Nat} (h : k < N) : (halfW N l k).set k ((slotL N l k).length : Int) = halfW N l (k + 1) := by
  unfold halfW
  have e : ((List.range k).map (fun j => ((slotL N l j).length : Int))).length = k := by rw [List.length_map, List.length_range]
  rw [List.set_append_right _ _ (by omega), e, Nat.sub_self, show N - k = (N - (k + 1)) + 1 by omega, List.replicate_succ, List.set_cons_zero, List.range_succ, List.map_append]
  simp
theorem halfW_all (N : Nat) (l : List Du) : halfW N l N = loadW N l := by
  unfold halfW
  rw [Nat.sub_self, List.replicate_zero, List.append_nil]
  rfl
theorem made_intsW (n : Nat) : (madeCells #[Value.int .i64 0] n).toList = (List.replicate n (0 : Int)).map (Value.int .i64) := by
  apply List.ext_getElem?
  intro j
  by_cases hj : j < n
  · rw [List.getElem?_eq_getElem (by rw [Array.length_toList, size_madeCells]; exact hj), List.getElem?_eq_getElem (by rw [List.length_map, List.length_replicate]; exact hj)]
    simp [madeCells, Nat.mod_one]
  · rw [List.getElem?_eq_none (by rw [Array.length_toList, size_madeCells]; omega), List.getElem?_eq_none (by rw [List.length_map, List.length_replicate]; omega)]
theorem info_intW : (Try.prog.info? 3).map (fun i => (i.zero, i.size, i.bytes)) = some (some (.int .i64 0), 1, 8) := by kernel_rfl
set_option maxRecDepth 100000 in
set_option maxHeartbeats 4000000 in
theorem wload_at (g s cap N : Nat) (ms : Nat → Nat) (now : Int) (l : List Du) (w : World) (H : LieAt w g s cap ms N now l) :
    Calls Try.prog 27 #[ptrW g] w fun e w' => ∃ o, e = .returned o ∧ OwnI w' w.heap.size o (loadW N l) ∧ Below w.heap.size w w' := by
  obtain ⟨hgood, hN1, hN2⟩ := H.good
  obtain ⟨i1, hi1, hk0, hk1, hk2⟩ := info_parts info_intW
  obtain ⟨M, hM⟩ : ∃ M, M = madeCells (Value.int .i64 0).cells (N * i1.size) := ⟨_, rfl⟩
  have hM2 : M.toList = (halfW N l 0).map (Value.int .i64) := by
    rw [hM, hk1, Nat.mul_one]
    unfold halfW
    rw [List.range_zero, List.map_nil, List.nil_append, Nat.sub_zero]
    exact made_intsW N
  have hM3 : M.size = N * 1 := by rw [hM, hk1, size_madeCells]
  have hmk : ∀ W : World, (Instr.makeSlice 53 (.int .i64 (N : Int)) (.int .i64 (N : Int))).run Try.prog W = .ok (.slice (some ⟨W.heap.size, 0, none⟩) N N) (W.alloc (.cells M 3)) := fun W => by
    have h := run_make (P := Try.prog) W 53 3 i1 (.int .i64 0) Try.underlying53 hi1 hk0 .i64 .i64 (N : Int) (N : Int) (by omega) (by omega) (by rw [hk2]; omega) (by omega)
    simp only [Int.toNat_natCast] at h
    rw [← hM] at h
    exact h
  have Hst := Lib.hid (show (w.alloc (.cells M 3)).ownsRow w.heap.size 3 1 (.slice (some ⟨w.heap.size, 0, none⟩) N N) N ((halfW N l 0).map (Value.int .i64)) from by
    rw [← hM2]
    exact World.ownsRow_lit w M N (Nat.le_refl _) (by unfold maxLen; omega) hM3)
  have HH := Lib.hid H
  have hba : Below w.heap.size w (w.alloc (.cells M 3)) := below_alloc (Nat.le_refl _) (Below.refl _ _) _
  have s1 := H.slots
  have s1' := (H.call hba).slots
  have HBA := Lib.hid hba
  clear hM hM2 hM3 hgood hba
  go_enter Try.func27, Try.ntmps27
  go_wp2
  go_loopw [19] (fun i wr => ∃ k : Nat, i = .int .i64 k ∧ k ≤ N ∧ wr.ownsRow w.heap.size 3 1 (.slice (some ⟨w.heap.size, 0, none⟩) N N) N ((halfW N l k).map (Value.int .i64)) ∧ Below w.heap.size w wr) (fun i _ => N - (intOf i).toNat)
  case atStart => exact ⟨0, rfl, by omega, Hst.out, HBA.out⟩
  case round =>
    clear s1 s1' Hst
    obtain ⟨k, rfl, hk, hown, hB⟩ := hrel
    by_cases hlt : k < N
    · have hlt' : (k : Int) < N := by omega
      have c0 := (HH.out.call hB).at_ k hlt
      have hMk := Lib.hid ((HH.out.call hB).map k hlt)
      have HX := Lib.hid (halfW_next (l := l) hlt)
      have hkl := halfW_len (N := N) (l := l) (k := k) (by omega)
      have HW := Lib.hid hown
      have hf : ∀ j, wr.frozen? ⟨w.heap.size, j, none⟩ = false := fun j => hown.frozenAt j
      obtain ⟨a0, e0⟩ : ∃ u, wr.cell? ⟨w.heap.size, k, none⟩ = some u := ⟨_, (hown.cellAt k (by omega)).trans (List.getElem?_eq_getElem (by rw [List.length_map, hkl]; exact hlt))⟩
      have HB := Lib.hid hB
      clear hown hkl hB
      go_wp2_with (refine wp_lenM _ rfl _ rfl lays_map rfl hMk.out ?_)
      go_roundw
      case rel =>
        refine ⟨k + 1, by go_num, by omega, ?_, ?_⟩
        · rw [← HX.out, List.map_set]
          exact (HW.out.stored _ _).1
        · have := HB.out
          (repeat (first | (with_reducible exact Below.refl _ _) | ((with_reducible refine below_alloc ?_ ?_ _); · (first | omega | (simp; done) | (simp; omega))) | ((with_reducible refine below_setCell ?_ ?_ _); · (first | omega | (simp; done) | (simp; omega))) | (with_reducible refine Below.drew ?_) | (with_reducible refine below_drewN ?_ _) | ((with_reducible refine below_call (by assumption) ?_ ?_); · (first | omega | (simp; done) | (simp; omega)))))
          all_goals exact HB.out
      case measure => simp [intOf]; omega
    · obtain rfl : k = N := by omega
      rw [halfW_all] at hown
      have hln : (loadW k l).length = k := by unfold loadW; rw [List.length_map, List.length_range]
      have HO := Lib.hid (show OwnI wr w.heap.size (.slice (some ⟨w.heap.size, 0, none⟩) k k) (loadW k l) from by unfold OwnI; rw [hln]; exact hown)
      clear hown
      go_wp2
      go_ret
      exact ⟨_, rfl, HO.out, hB⟩
theorem wnow_at (g s cap N : Nat) (ms : Nat → Nat) (now : Int) (l : List Du) (w : World) (H : LieAt w g s cap ms N now l) : Calls Try.prog 25 #[ptrW g] w fun e w' => e = .returned (.int .i64 now) ∧ Below w.heap.size w w' := by
  have t1 := H.tick
  go_enter Try.func25, Try.ntmps25
  go_wp2
  go_ret
  exact ⟨rfl, Below.refl _ _⟩
set_option maxHeartbeats 2000000 in
theorem wnext_at (g s cap N : Nat) (ms : Nat → Nat) (now : Int) (l : List Du) (w : World) (H : LieAt w g s cap ms N now l) (hW : GoodW l now) : Calls Try.prog 19 #[ptrW g] w fun e w' => e = .returned (.tuple #[.int .i64 (nextW l), .bool (decide (0 < l.length))]) ∧ Below w.heap.size w w' := by
  have cA := Lib.hid (wall_at g s cap N ms now l w H hW)
  cases l with
  | nil =>
    go_enter Try.func19, Try.ntmps19
    go_wp2_with fail
    refine cA.out.mono ?_; rintro e w1 ⟨o, rfl, ho, hb1⟩
    obtain ⟨p, c, rfl⟩ := ho.form
    clear ho
    simp only [List.length_nil]
    go_wp2
    go_ret2
    exact ⟨rfl, hb1⟩
  | cons x l =>
    obtain ⟨id, a⟩ := x
    have HR : Hid (nextW ((id, a) :: l) = a ∧ decide (0 < ((id, a) :: l).length) = true) := Lib.hid ⟨rfl, by simp⟩
    rw [HR.out.1, HR.out.2]
    go_enter Try.func19, Try.ntmps19
    go_wp2_with fail
    refine cA.out.mono ?_; rintro e w1 ⟨o, rfl, ho, hb1⟩
    obtain ⟨p, c, he, -, hc⟩ := ho.reads duC_len
    subst he
    obtain ⟨b, off, rfl, g0⟩ := hc 0 (by simp)
    have d1 := g0 1 _ rfl
    simp only [Nat.zero_mul, Nat.add_zero, List.getElem_cons_zero] at d1
    have hL0 : 0 < ((id, a) :: l).length := by simp
    clear ho hc g0 HR cA H
    generalize ((id, a) :: l).length = L at hL0 ⊢
    have hlen : ¬ ((L : Int) = 0) := by omega
    have hpos : (0 : Int) < (L : Int) := by omega
    go_wp2
    go_ret2
    exact ⟨rfl, hb1⟩
def sumI : List Int → Int
  | [] => 0
  | x :: l => x + sumI l
theorem sum_app : ∀ a b : List Int, sumI (a ++ b) = sumI a + sumI b
  | [], b => by simp [sumI]
  | x :: a, b => by simp only [List.cons_append, sumI, sum_app a b]; omega
theorem sum_upTo (N : Nat) (l : List Du) (k : Nat) : sumI ((List.range k).map (fun j => ((slotL N l j).length : Int))) = ((upTo N l k).length : Int) := by
  induction k with
  | zero => rfl
  | succ k ih =>
    rw [List.range_succ, List.map_append, sum_app, ih, upTo_next, List.length_append]
    simp [sumI]
theorem sum_load {N : Nat} (hN : 1 ≤ N) (l : List Du) : sumI (loadW N l) = (l.length : Int) := by
  rw [show loadW N l = (List.range N).map (fun j => ((slotL N l j).length : Int)) from rfl, sum_upTo, (upTo_all hN l).length_eq]
theorem load_at {N : Nat} {l : List Du} {k : Nat} (hk : k < N) : (loadW N l)[k]? = some ((slotL N l k).length : Int) := by
  unfold loadW
  rw [List.getElem?_map, List.getElem?_range hk]
  rfl
set_option maxRecDepth 100000 in
set_option maxHeartbeats 2000000 in
theorem wlen_at (g s cap N : Nat) (ms : Nat → Nat) (now : Int) (l : List Du) (w : World) (H : LieAt w g s cap ms N now l) : Calls Try.prog 24 #[ptrW g] w fun e w' => e = .returned (.int .i64 (l.length : Int)) ∧ Below w.heap.size w w' := by
  have cL := Lib.hid (wload_at g s cap N ms now l w H)
  obtain ⟨hgood, hN1, hN2⟩ := H.good
  have hlen := good_len hgood
  have hLl : (loadW N l).length = N := by unfold loadW; rw [List.length_map, List.length_range]
  have HS := Lib.hid (sum_load hN1 l)
  clear H
  go_enter Try.func24, Try.ntmps24
  go_wp2_with fail
  refine cL.out.mono ?_; rintro e w1 ⟨o, rfl, ho, hb1⟩
  obtain ⟨p, c, rfl, hc⟩ := ho.reads
  rw [hLl]
  have HC := Lib.hid hc
  clear ho hc cL
  go_wp2
  go_loopw [3, 9] (fun t i wr => ∃ k : Nat, t = .int .i64 ((upTo N l k).length : Int) ∧ i = .int .i64 k ∧ k ≤ N ∧ Below w1.heap.size w1 wr) (fun _ i _ => N - (intOf i).toNat)
  case atStart => exact ⟨0, rfl, rfl, Nat.zero_le _, Below.refl _ _⟩
  case round =>
    obtain ⟨k, rfl, rfl, hk, hB⟩ := hrel
    by_cases hlt : k < N
    · have hlt' : (k : Int) < N := by omega
      obtain ⟨b, off, rfl, d⟩ := HC.out k (by omega)
      have e1 : (loadW N l)[k]'(by omega) = ((slotL N l k).length : Int) := by
        have := load_at (l := l) hlt
        rw [List.getElem?_eq_getElem (by omega)] at this
        exact Option.some.inj this
      rw [e1] at d
      have d1 := (hB.cell (p := ⟨b, off + k, none⟩) (World.block_lt_of_cell? _ _ d)).trans d
      have hn : (upTo N l (k + 1)).length = (upTo N l k).length + (slotL N l k).length := by rw [upTo_next, List.length_append]
      have HN := Lib.hid hn
      have hb2 : (upTo N l (k + 1)).length ≤ 8192 := by
        have h1 := upTo_len (N := N) hlen (k + 1)
        have h2 : (k + 1) * 256 ≤ 32 * 256 := Nat.mul_le_mul_right _ (by omega)
        omega
      have hw : IntKind.i64.wrap (((upTo N l k).length : Int) + ((slotL N l k).length : Int)) = ((upTo N l k).length : Int) + ((slotL N l k).length : Int) := IntWalk.i64_in _ (by omega)
      clear d e1 hn
      go_wp2
      go_roundw
      case rel => exact ⟨k + 1, by rw [HN.out]; simp, by go_num, by omega, hB⟩
      case measure => simp [intOf]; omega
    · obtain rfl : k = N := by omega
      have HT := Lib.hid (upTo_all hN1 l).length_eq
      go_wp2
      go_ret
      exact ⟨ret_int (by rw [HT.out]), hb1.trans (hB.mono hb1.size)⟩
theorem wset_nil (id a : Int) (w : World) : Calls Try.prog 17 #[.pointer none, .int .i64 id, .int .i64 a] w fun e w' => e = .returned (.int .i64 1) ∧ Below w.heap.size w w' := by
  go_enter Try.func17, Try.ntmps17
  go_wp2
  go_ret
  exact ⟨rfl, Below.refl _ _⟩
theorem wstop_nil (id : Int) (w : World) : Calls Try.prog 10 #[.pointer none, .int .i64 id] w fun e w' => e = .returned (.bool false) ∧ Below w.heap.size w w' := by
  have c := Lib.hid (wwhen_nil id w)
  go_enter Try.func10, Try.ntmps10
  go_wp2_with fail
  refine c.out.mono ?_; rintro e w1 ⟨rfl, hb1⟩
  go_wp2
  go_ret
  exact ⟨rfl, hb1⟩
theorem wgo_nil (t2 : Int) (w : World) : Calls Try.prog 14 #[.pointer none, .int .i64 t2] w fun e w' => ∃ p c, e = .returned (.slice p 0 c) ∧ Below w.heap.size w w' := by
  go_enter Try.func14, Try.ntmps14
  go_wp2
  go_ret
  exact ⟨_, _, rfl, Below.refl _ _⟩
theorem wnow_nil (w : World) : Calls Try.prog 25 #[.pointer none] w fun e w' => e = .returned (.int .i64 0) ∧ Below w.heap.size w w' := by
  go_enter Try.func25, Try.ntmps25
  go_wp2
  go_ret
  exact ⟨rfl, Below.refl _ _⟩
theorem wall_nil (w : World) : Calls Try.prog 23 #[.pointer none] w fun e w' => ∃ p c, e = .returned (.slice p 0 c) ∧ Below w.heap.size w w' := by
  go_enter Try.func23, Try.ntmps23
  go_wp2
  go_ret
  exact ⟨_, _, rfl, Below.refl _ _⟩
theorem wload_nil (w : World) : Calls Try.prog 27 #[.pointer none] w fun e w' => ∃ p c, e = .returned (.slice p 0 c) ∧ Below w.heap.size w w' := by
  go_enter Try.func27, Try.ntmps27
  go_wp2
  go_ret
  exact ⟨_, _, rfl, Below.refl _ _⟩
theorem wnext_nil (w : World) : Calls Try.prog 19 #[.pointer none] w fun e w' => e = .returned (.tuple #[.int .i64 0, .bool false]) ∧ Below w.heap.size w w' := by
  have c := Lib.hid (wall_nil w)
  go_enter Try.func19, Try.ntmps19
  go_wp2_with fail
  refine c.out.mono ?_; rintro e w1 ⟨p, cc, rfl, hb1⟩
  go_wp2
  go_ret2
  exact ⟨rfl, hb1⟩
theorem wlen_nil (w : World) : Calls Try.prog 24 #[.pointer none] w fun e w' => e = .returned (.int .i64 0) ∧ Below w.heap.size w w' := by
  have c := Lib.hid (wload_nil w)
  go_enter Try.func24, Try.ntmps24
  go_wp2_with fail
  refine c.out.mono ?_; rintro e w1 ⟨p, cc, rfl, hb1⟩
  go_wp2
  refine wp_loop_rounds 1 ?_
  rw [rounds_succ]
  go_wp2
  go_ret
  exact ⟨rfl, hb1⟩
end Go.Proofs.Ytcanaadcjipfjaa
