/- WheelOnce: each number that was set, and not stopped or set again, is told once, just at the first call that reaches its tick, in order: the statement holds for every input. No condition. -/
import Derived.Test.YtcanaadcjipfjaaLawKit
import Derived.Test.YtcanaadcjipfjaaLawOpen15
import Derived.Test.YtcanaadcjipfjaaW15W
namespace Go.Proofs.Ytcanaadcjipfjaa
open Go.RowKit Go.ChangeShapes Go.WideShapes Go.ChangeAt
set_option linter.unusedVariables false
set_option linter.unusedSimpArgs false

/-- an array of 256 numbers in memory -/
def Ar (w : World) (b : Nat) (f : Int → Int) : Prop := (∀ j : Nat, j < 256 → w.cell? ⟨b, j, none⟩ = some (.int .i64 (f j))) ∧ ∀ j, w.frozen? ⟨b, j, none⟩ = false
theorem Ar.lt {w : World} {b : Nat} {f : Int → Int} (h : Ar w b f) : b < w.heap.size := World.block_lt_of_cell? _ _ (h.1 0 (by decide))
theorem Ar.far {w w' : World} {b : Nat} {f : Int → Int} (h : Ar w b f) (hk : w'.heap[b]? = w.heap[b]?) : Ar w' b f :=
  ⟨fun j hj => (World.cell?_of_block (w := w) (a := ⟨b, j, none⟩) hk).trans (h.1 j hj), fun j => (World.frozen?_of_block (w := w) (a := ⟨b, j, none⟩) hk).trans (h.2 j)⟩
theorem Ar.put {w : World} {b : Nat} {f : Int → Int} (h : Ar w b f) (i : Nat) (hi : i < 256) (a : Int) : Ar (w.setCell ⟨b, i, none⟩ (.int .i64 a)) b (updW f i a) := by
  refine ⟨fun j hj => ?_, fun j => by simpa using h.2 j⟩
  unfold updW
  by_cases e : j = i
  · subst e
    rw [if_pos rfl]
    exact World.cell?_setCell_same _ _ _ (h.1 j hj)
  · rw [if_neg (by omega), World.cell?_setCell_other _ _ _ _ (by intro q; injection q with q1 q2; exact e q2.symm)]
    exact h.1 j hj
/-- a wheel, and beside it an array of when each number is due -/
structure On15 (w0 w : World) (C : Nat → Prop) (g N : Nat) (now : Int) (l : List Du) (b : Nat) (f : Int → Int) : Prop where
  a : LieW w C g N now l
  r : Ar w b f
  d : ¬ C b
  c : ∀ q, C q → w0.heap.size ≤ q
  o : w0.heap.size ≤ b
  B : Below w0.heap.size w0 w
theorem On15.call {w0 w w' : World} {C : Nat → Prop} {g N : Nat} {now : Int} {l : List Du} {b : Nat} {f : Int → Int} (T : On15 w0 w C g N now l b f) (hb : Below w.heap.size w w') : On15 w0 w' C g N now l b f :=
  ⟨T.a.keep (fun q hq => hb.block q (T.a.lt q hq)), T.r.far (hb.block b T.r.lt), T.d, T.c, T.o, T.B.trans (hb.mono T.B.size)⟩
theorem On15.did {w0 w w' : World} {C : Nat → Prop} {g N : Nat} {now : Int} {l : List Du} {b : Nat} {f : Int → Int} {now' : Int} {l' : List Du} (T : On15 w0 w C g N now l b f) (H : Did15 w w' C g N now' l') : ∃ C', On15 w0 w' C' g N now' l' b f := by
  obtain ⟨C', H, hC, hb⟩ := H
  refine ⟨C', H, T.r.far (hb.2 b T.r.lt T.d), fun hc => ?_, fun q hq => ?_, T.o, T.B.trans (hb.to T.c T.B.size)⟩
  · rcases hC b hc with k | k
    · exact T.d k
    · have := T.r.lt; omega
  · rcases hC q hq with k | k
    · exact T.c q k
    · exact Nat.le_trans T.B.size k
theorem On15.put {w0 w : World} {C : Nat → Prop} {g N : Nat} {now : Int} {l : List Du} {b : Nat} {f : Int → Int} (T : On15 w0 w C g N now l b f) (i : Nat) (hi : i < 256) (a : Int) : On15 w0 (w.setCell ⟨b, i, none⟩ (.int .i64 a)) C g N now l b (updW f i a) :=
  ⟨T.a.keep (fun q hq => Below.heap_setCell w ⟨b, i, none⟩ _ q (by show q ≠ b; intro e; subst e; exact T.d hq)), T.r.put i hi a, T.d, T.c, T.o, T.B.setCell T.o _⟩
theorem setE_ok {now id a : Int} (h : 0 ≤ id ∧ id ≤ 255) (h1 : now < a) (h2 : a ≤ 1099511627776) : setE now id a = 0 := if_neg (by omega)
theorem gone_next (now : Int) (gap : Int) (h : 0 ≤ gap) (h2 : now + gap ≤ 1099511627776) : goN now (now + gap) = now + gap := by
  unfold goN gone
  by_cases hg : now < now + gap
  · rw [if_pos (decide_eq_true ⟨hg, h2⟩)]
  · rw [if_neg (by simp; omega)]
    omega
theorem setW_len (l : List Du) (now id a : Int) : (setW l now id a).length ≤ l.length + 1 := by
  unfold setW
  split
  · rw [ins_len]
    have := List.length_filter_le (fun e : Du => decide (e.1 ≠ id)) l
    unfold delW
    omega
  · omega
theorem delW_len (l : List Du) (id : Int) : (delW l id).length ≤ l.length := List.length_filter_le _ _
theorem go_len (l : List Du) (now t2 : Int) : (goL l now t2).length ≤ l.length ∧ (goW l now t2).length ≤ l.length := by
  have := congrArg List.length (go_app l now t2)
  rw [List.length_append] at this
  omega
set_option maxRecDepth 100000 in
@[go_sem high] theorem zero256 (W : World) : (zeroValue 58).run Try.prog W = .ok (.agg (Array.replicate 256 (.int .i64 0))) W := by kernel_rfl
theorem ar_new (w : World) (t : TypeId) : Ar (w.alloc (.cells (Array.replicate 256 (.int .i64 0)) t)) w.heap.size (fun _ => 0) := by
  have e : (w.alloc (.cells (Array.replicate 256 (.int .i64 0)) t)).heap[w.heap.size]? = some (.cells (Array.replicate 256 (.int .i64 0)) t (0, 0)) := by
    show (w.heap.push _)[w.heap.size]? = _
    simp
  refine ⟨fun j hj => ?_, fun j => ?_⟩
  · unfold World.cell?
    rw [e]
    simp [hj]
  · unfold World.frozen?
    rw [e]
    simp
theorem dueN_le (f : Int → Int) : ∀ n, dueN f n ≤ n
  | 0 => Nat.le_refl _
  | n + 1 => by
    have := dueN_le f n
    unfold dueN
    split <;> omega
set_option maxRecDepth 100000 in
set_option maxHeartbeats 16000000 in
theorem wonce_walk (a : Int) (v : Value) (l : List Pl) (w : World) (ha : 0 ≤ a ∧ a ≤ 255) (hv : IsR 4 plC w v l) (hok : ∀ x ∈ l, PlOk x) :
    Calls Try.prog 5 #[.int .u8 a, v] w fun e w' => e = .returned (.bool true) ∧ Below w.heap.size w w' := by
  obtain ⟨p, cap, rfl, -, hp⟩ := hv
  have HP := Lib.hid hp
  have HK := Lib.hid hok
  clear hp hok
  by_cases hl : 80 < l.length
  · have hl' : (80 : Int) < l.length := by omega
    clear hl
    go_enter Try.func5, Try.ntmps5
    go_wp2_with fail
    refine (awake_any _).mono ?_; rintro e w1 ⟨rfl, hb1⟩
    go_wp2
    go_ret
    exact ⟨rfl, hb1⟩
  have hl' : ¬ (80 : Int) < l.length := by omega
  have HLL := Lib.hid (show l.length ≤ 80 by omega)
  clear hl
  obtain ⟨N, hN⟩ : ∃ N : Nat, (N : Int) = 1 + a % 32 := ⟨(1 + a % 32).toNat, by omega⟩
  have ea : Int.tmod a 32 = (N : Int) - 1 := by rw [Int.tmod_eq_emod_of_nonneg ha.1]; omega
  have ea2 : a % 32 = (N : Int) - 1 := by omega
  have hNb : 1 ≤ N ∧ N ≤ 32 := by omega
  have wa : IntKind.u8.wrap ((N : Int) - 1) = (N : Int) - 1 := IntWalk.u8_in _ (by omega)
  have wa2 : IntKind.i64.wrap ((N : Int) - 1) = (N : Int) - 1 := IntWalk.i64_in _ (by omega)
  have wa3 : IntKind.i64.wrap (1 + ((N : Int) - 1)) = (N : Int) := by rw [IntWalk.i64_in _ (by omega)]; omega
  have HNM := Lib.hid hNb
  clear hN ha hNb
  go_enter Try.func5, Try.ntmps5
  go_wp2_with fail
  refine (wnew_yes N _ HNM.out).mono ?_; rintro e w1 ⟨g, C, rfl, H1, hC, hb1⟩
  go_upto_region 7 with fail
  have HT : Hid (∃ C l0 f, On15 w (w1.alloc (.cells (Array.replicate 256 (.int .i64 0)) 58)) C g N (0 : Nat) l0 w1.heap.size f ∧ DueW l0 f ∧ l0.length ≤ 0) := Lib.hid ⟨C, [], fun _ => 0, ⟨H1.keep (fun q hq => (below_alloc (Nat.le_refl _) (Below.refl _ _) _).block q (H1.lt q hq)), ar_new _ _, fun hc => Nat.lt_irrefl _ (H1.lt _ hc), hC, hb1.size, below_alloc hb1.size hb1 _⟩, DueW.start, Nat.le_refl _⟩
  obtain ⟨bA, hbA⟩ : ∃ bA, bA = w1.heap.size := ⟨_, rfl⟩
  rw [← hbA] at HT ⊢
  generalize w1.alloc (.cells (Array.replicate 256 (.int .i64 0)) 58) = w2 at HT ⊢
  clear H1 hC hb1 hbA ea ea2 wa wa2 wa3
  go_wp2
  go_loopw [8, 9] (fun nv i wr => ∃ k n : Nat, nv = .int .i64 n ∧ i = .int .i64 k ∧ k ≤ l.length ∧ n ≤ 255 * k ∧ Hid (∃ C l0 f, On15 w wr C g N n l0 bA f ∧ DueW l0 f ∧ l0.length ≤ k)) (fun _ i _ => l.length - (intOf i).toNat)
  case atStart => exact ⟨0, 0, rfl, rfl, Nat.zero_le _, Nat.le_refl _, HT⟩
  case round =>
    clear HT
    obtain ⟨k, n, rfl, rfl, hk, hn, HT⟩ := hrel
    have hn2 : n ≤ 255 * 80 := by have := HLL.out; omega
    by_cases hlt : k < l.length
    · have hlt' : (k : Int) < l.length := by omega
      obtain ⟨bb, off, rfl, cl⟩ := HP.out k hlt
      have hok := HK.out l[k] (List.getElem_mem hlt)
      obtain ⟨z0, hz0⟩ : ∃ x, l[k].1 = x := ⟨_, rfl⟩
      obtain ⟨i1, hi1⟩ : ∃ x, l[k].2.1 = x := ⟨_, rfl⟩
      obtain ⟨i2, hi2⟩ : ∃ x, l[k].2.2.1 = x := ⟨_, rfl⟩
      obtain ⟨st, hst⟩ : ∃ x, l[k].2.2.2 = x := ⟨_, rfl⟩
      have c0 := cl 0 _ rfl
      have c1 := cl 1 _ rfl
      have c2 := cl 2 _ rfl
      have c3 := cl 3 _ rfl
      unfold PlOk at hok
      rw [hz0] at c0 hok
      rw [hi1] at c1 hok
      rw [hi2] at c2 hok
      rw [hst] at c3
      obtain ⟨i0, rfl⟩ : ∃ i0 : Nat, z0 = i0 := ⟨z0.toNat, by omega⟩
      have hi0 : i0 ≤ 255 := by omega
      simp only [Nat.add_zero] at c0
      have HCL : Hid (∀ W, Below w.heap.size w W → (W.cell? ⟨bb, off + k * 4, none⟩ = some (.int .u8 i0) ∧ W.cell? ⟨bb, off + k * 4 + 1, none⟩ = some (.int .u8 i1)) ∧ (W.cell? ⟨bb, off + k * 4 + 2, none⟩ = some (.int .u8 i2) ∧ W.cell? ⟨bb, off + k * 4 + 3, none⟩ = some (.bool st))) := Lib.hid (fun W hB => ⟨⟨(hB.cell (p := ⟨bb, off + k * 4, none⟩) (World.block_lt_of_cell? _ _ c0)).trans c0, (hB.cell (p := ⟨bb, off + k * 4 + 1, none⟩) (World.block_lt_of_cell? _ _ c1)).trans c1⟩, (hB.cell (p := ⟨bb, off + k * 4 + 2, none⟩) (World.block_lt_of_cell? _ _ c2)).trans c2, (hB.cell (p := ⟨bb, off + k * 4 + 3, none⟩) (World.block_lt_of_cell? _ _ c3)).trans c3⟩)
      obtain ⟨C, l0, f, T0, F0, hll⟩ := HT.out
      have HOK := Lib.hid hok
      have x1 : IntKind.i64.wrap ((n : Int) + 1) = (n : Int) + 1 := IntWalk.i64_in _ (by omega)
      have x2 : IntKind.i64.wrap i1 = i1 := IntWalk.i64_in _ (by omega)
      have x3 : IntKind.i64.wrap ((n : Int) + 1 + i1) = (n : Int) + 1 + i1 := IntWalk.i64_in _ (by omega)
      have x4 : IntKind.i64.wrap (i0 : Int) = (i0 : Int) := IntWalk.i64_in _ (by omega)
      have x5 : IntKind.i64.wrap i2 = i2 := IntWalk.i64_in _ (by omega)
      have x6 : IntKind.i64.wrap ((n : Int) + i2) = (n : Int) + i2 := IntWalk.i64_in _ (by omega)
      have hwi : (0 : Int) ≤ (i0 : Int) + 1 := by omega
      have hwi2 : (i0 : Int) < 256 := by omega
      have q1 : I64 (i0 : Int) := by unfold I64; omega
      have q2 : I64 ((n : Int) + 1 + i1) := by unfold I64; omega
      have q3 : I64 ((n : Int) + i2) := by unfold I64; omega
      have HQ := Lib.hid (And.intro q1 (And.intro q2 q3))
      have hT0 := Lib.hid T0
      have hF0 := Lib.hid F0
      clear c0 c1 c2 c3 cl hz0 hi1 hi2 hst hok q1 q2 q3 HT T0 F0
      obtain ⟨⟨d0, d1⟩, d2, d3⟩ := HCL.out _ hT0.out.B
      go_upto_if 52 with fail
      go_cut [] (fun wx => Hid (∃ C l1 f, On15 w wx C g N n l1 bA f ∧ DueW l1 f ∧ l1.length ≤ k + 1))
      case first =>
        have HF2 := Lib.hid (hF0.out.is (id := (i0 : Int)) (by omega) (by omega))
        have hGood := Lib.hid hT0.out.a.good.1
        clear HP HK
        cases st with
        | true =>
          have hTd := Lib.hid (hT0.out.call (Below.drew (Below.refl _ _)))
          have hS0 := hTd.out.r.1 i0 (by omega)
          have KP := Lib.hid (show ∀ W, (W = wr.drew ∨ Did15 wr.drew W C g N n (delW l0 i0)) → W.cell? ⟨bA, i0, none⟩ = some (.int .i64 (f i0)) from fun W h => by
            rcases h with rfl | h
            · exact hS0
            · obtain ⟨C', T'⟩ := hTd.out.did h
              exact T'.r.1 i0 (by omega))
          have hK0 : wr.drew = wr.drew ∨ Did15 wr.drew wr.drew C g N n (delW l0 i0) := .inl rfl
          have cst := wstop_any C g N n l0 wr.drew hTd.out.a i0 HQ.out.1
          rw [HF2.out] at cst
          generalize hy : f (i0 : Int) = y at hS0 KP cst
          have HY := Lib.hid hy
          clear hy HF2
          have Hst := Lib.hid cst
          clear cst
          go_wp2
          refine wp_region_held_drew (S := fun W => W.cell? ⟨bA, i0, none⟩ = some (.int .i64 y)) (by kernel_rfl) (by (try exact KP.out _ (by assumption)); (try exact hS0)) (fun hHeld => ?_)
          (refine wpAnyH_take (i := 0) (v := ?_) rfl (by kernel_rfl) (by kernel_rfl) (by kernel_rfl) (fun _ _ _ h => h) (Or.inl ⟨by rfl, ?_⟩) (by assumption) ?_; rotate_left 1; (focus (intro wz hz; (try dsimp only at hz); (try simp only [List.getElem_toArray, List.getElem_cons_succ, List.getElem_cons_zero]); go_simp; (try (rw [if_neg (by (try simp only [ByteArray.size_append]); omega)])); try (with_reducible rfl); done)))
          try simp only [Act.put, List.getElem_toArray, List.getElem_cons_succ, List.getElem_cons_zero, List.setIfInBounds_toArray, List.set_cons_zero, List.set_cons_succ]
          (refine wpAnyH_take (i := 1) (v := ?_) rfl (by kernel_rfl) (by kernel_rfl) (by kernel_rfl) (fun _ _ _ h => h) (Or.inl ⟨by rfl, ?_⟩) (by assumption) ?_; rotate_left 1; (focus (intro wz hz; (try dsimp only at hz); (try simp only [List.getElem_toArray, List.getElem_cons_succ, List.getElem_cons_zero]); go_simp; (try (rw [if_neg (by (try simp only [ByteArray.size_append]); omega)])); try (with_reducible rfl); done)))
          try simp only [Act.put, List.getElem_toArray, List.getElem_cons_succ, List.getElem_cons_zero, List.setIfInBounds_toArray, List.set_cons_zero, List.set_cons_succ]
          (refine wpAnyH_take (i := 3) (v := ?_) rfl (by kernel_rfl) (by kernel_rfl) (by kernel_rfl) (fun _ _ _ h => h) (Or.inl ⟨by rfl, ?_⟩) (by assumption) ?_; rotate_left 1; (focus (intro wz hz; (try dsimp only at hz); (try simp only [List.getElem_toArray, List.getElem_cons_succ, List.getElem_cons_zero]); go_simp; (try (rw [if_neg (by (try simp only [ByteArray.size_append]); omega)])); try (with_reducible rfl); done)))
          try simp only [Act.put, List.getElem_toArray, List.getElem_cons_succ, List.getElem_cons_zero, List.setIfInBounds_toArray, List.set_cons_zero, List.set_cons_succ]
          (refine wpAnyH_take (i := 4) (v := ?_) rfl (by kernel_rfl) (by kernel_rfl) (by kernel_rfl) (fun _ _ _ h => h) (Or.inl ⟨by rfl, ?_⟩) (by assumption) ?_; rotate_left 1; (focus (intro wz hz; (try dsimp only at hz); (try simp only [List.getElem_toArray, List.getElem_cons_succ, List.getElem_cons_zero]); go_simp; (try (rw [if_neg (by (try simp only [ByteArray.size_append]); omega)])); try (with_reducible rfl); done)))
          try simp only [Act.put, List.getElem_toArray, List.getElem_cons_succ, List.getElem_cons_zero, List.setIfInBounds_toArray, List.set_cons_zero, List.set_cons_succ]
          (refine wpAnyH_take (i := 5) (v := ?_) rfl (by kernel_rfl) (by kernel_rfl) (by kernel_rfl) (fun _ _ _ h => h) (Or.inl ⟨by rfl, ?_⟩) (by assumption) ?_; rotate_left 1; (focus (intro wz hz; (try dsimp only at hz); (try simp only [List.getElem_toArray, List.getElem_cons_succ, List.getElem_cons_zero]); go_simp; (try (rw [if_neg (by (try simp only [ByteArray.size_append]); omega)])); try (with_reducible rfl); done)))
          try simp only [Act.put, List.getElem_toArray, List.getElem_cons_succ, List.getElem_cons_zero, List.setIfInBounds_toArray, List.set_cons_zero, List.set_cons_succ]
          (refine wpAnyH_take (i := 6) (v := ?_) rfl (by kernel_rfl) (by kernel_rfl) (by kernel_rfl) (fun _ _ _ h => h) (Or.inl ⟨by rfl, ?_⟩) (by assumption) ?_; rotate_left 1; (focus (intro wz hz; (try dsimp only at hz); (try simp only [List.getElem_toArray, List.getElem_cons_succ, List.getElem_cons_zero]); go_simp; (try (rw [if_neg (by (try simp only [ByteArray.size_append]); omega)])); try (with_reducible rfl); done)))
          try simp only [Act.put, List.getElem_toArray, List.getElem_cons_succ, List.getElem_cons_zero, List.setIfInBounds_toArray, List.set_cons_zero, List.set_cons_succ]
          (refine wpAnyH_ready (rs := [2]) (by kernel_rfl) (by simp) ?_; refine AllReadyH.cons rfl (fun K hK => ?_) AllReadyH.nil; (try simp only [List.getElem_toArray, List.getElem_cons_succ, List.getElem_cons_zero]); go_simp; go_at_call 10; refine (Hst.out).mono ?_; rintro e wn2 ⟨rfl, hd2⟩; have hk2 : wn2 = wr.drew ∨ Did15 wr.drew wn2 C g N n (delW l0 i0) := .inr hd2; (try (go_wp2_with fail)); refine hK.out _ _ (by (try exact KP.out _ (by assumption)); (try exact hS0)) (fun hHeld => ?_); clear hK K)
          try simp only [Act.put, List.getElem_toArray, List.getElem_cons_succ, List.getElem_cons_zero, List.setIfInBounds_toArray, List.set_cons_zero, List.set_cons_succ]
          (refine wpAnyH_take (i := 7) (v := ?_) rfl (by kernel_rfl) (by kernel_rfl) (by kernel_rfl) (fun _ _ _ h => h) (Or.inl ⟨by rfl, ?_⟩) (by assumption) ?_; rotate_left 1; (focus (intro wz hz; (try dsimp only at hz); (try simp only [List.getElem_toArray, List.getElem_cons_succ, List.getElem_cons_zero]); go_simp; (try (rw [if_neg (by (try simp only [ByteArray.size_append]); omega)])); try (with_reducible rfl); done)))
          try simp only [Act.put, List.getElem_toArray, List.getElem_cons_succ, List.getElem_cons_zero, List.setIfInBounds_toArray, List.set_cons_zero, List.set_cons_succ]
          refine wpAnyH_done (by kernel_rfl) ?_ _
          clear hHeld hS0 hK0 hk2
          obtain ⟨C2, T2⟩ := hTd.out.did hd2
          have e0 := T2.r.1 i0 (by omega)
          have ef := T2.r.2
          have HT2 := Lib.hid T2
          clear T2 hd2 KP
          have hbb : ((decide (0 < y)) != (decide (0 < y))) = false := by simp
          go_wp2
          go_meet
          exact Lib.hid ⟨C2, delW l0 i0, updW f i0 0, HT2.out.put i0 (by omega) 0, hF0.out.del hGood.out.u (by omega), Nat.le_trans (delW_len _ _) (by omega)⟩
        | false =>
          have HD := Lib.hid (hF0.out.set hGood.out (id := i0) (a := (n : Int) + 1 + i1) (by omega) (by have := HOK.out; omega) (by have := HOK.out; omega))
          clear HF2
          go_wp2_with fail
          refine (wset_any C g N n l0 _ hT0.out.a i0 _ HQ.out.1 HQ.out.2.1).mono ?_; rintro e w3 ⟨rfl, hd3⟩
          rw [HD.out.1]
          obtain ⟨C2, T2⟩ := hT0.out.did hd3
          have e0 := T2.r.1 i0 (by omega)
          have ef := T2.r.2
          have HT2 := Lib.hid T2
          obtain ⟨⟨d0, d1⟩, d2, d3⟩ := HCL.out _ T2.B
          clear T2 hd3
          go_wp2
          go_meet
          exact Lib.hid ⟨C2, _, _, HT2.out.put i0 (by omega) ((n : Int) + 1 + i1), HD.out.2, Nat.le_trans (setW_len _ _ _ _) (by omega)⟩
      case rest =>
        obtain ⟨C, l1, f, T0, F0, hll1⟩ := hcut.out
        have hT1 := Lib.hid T0
        have hF1 := Lib.hid F0
        have HLL1 := Lib.hid hll1
        have hgn := Lib.hid (gone_next n i2 (by have := HOK.out; omega) (by have := HOK.out; omega))
        obtain ⟨⟨d0, d1⟩, d2, d3⟩ := HCL.out _ T0.B
        clear hcut T0 F0 hll1 hT0 hF0 hll HK HP
        go_wp2_with fail
        refine (wgo_any C g N n l1 _ hT1.out.a ((n : Int) + i2) HQ.out.2.2).mono ?_; rintro e w3 ⟨o3, rfl, R3, hd3⟩
        obtain ⟨C2, T2⟩ := hT1.out.did hd3
        rw [hgn.out] at T2
        have HA := Lib.hid (go_app l1 n ((n : Int) + i2))
        have HTO := Lib.hid (fun e (he : e ∈ goL l1 n ((n : Int) + i2)) => go_told he)
        have HG1 := Lib.hid hT1.out.a.good.1
        have HW := Lib.hid (show (goW l1 n ((n : Int) + i2)).length ≤ k + 1 from Nat.le_trans (go_len _ _ _).2 HLL1.out)
        have HOL := Lib.hid (show (goL l1 n ((n : Int) + i2)).length ≤ k + 1 from Nat.le_trans (go_len _ _ _).1 HLL1.out)
        obtain ⟨m, hm⟩ : ∃ m : Nat, (m : Int) = (n : Int) + i2 := ⟨((n : Int) + i2).toNat, by have := HOK.out; omega⟩
        rw [← hm] at T2 R3 HA HTO HW HOL x6 ⊢
        have hm2 := Lib.hid (show m ≤ 255 * (k + 1) by have := HOK.out; omega)
        have hm3 : m ≤ 255 * 81 := by have := hm2.out; omega
        generalize goW l1 n (m : Int) = l2 at T2 HA HW
        generalize goL l1 n (m : Int) = ot at R3 HA HTO HOL
        obtain ⟨p3, c3, f3⟩ := R3.form
        subst f3
        have HR := Lib.hid (R3.reads duC_len)
        have hT2 := Lib.hid T2
        have hot : ot.length ≤ 81 := by have := HOL.out; omega
        have hbA := hT1.out.r.lt
        have HE := Lib.hid (show ∀ j (hj : j < ot.length), ∃ b1 o1, p3 = some ⟨b1, o1, none⟩ ∧ b1 ≠ bA ∧ Du2 w3 b1 (o1 + j * 2) ot[j] from fun j hj => by
          obtain ⟨_, _, e5, _, g5⟩ := HR.out
          cases e5
          obtain ⟨b1, o1, h1, k1⟩ := g5 j hj
          refine ⟨b1, o1, h1, ?_, du2_of k1⟩
          have hf := far_new (C := fun q => q = bA) R3 (fun q hq => by rw [hq]; exact hbA)
          exact hf b1 (by rw [h1]; rfl))
        clear hbA
        clear hT1 hd3 T2 R3 HR hm hgn HQ x1 x2 x3 x4 x5 hwi hwi2 d0 d1 d2 d3
        go_wp2
        have HD1 : Hid (DueW (ot.drop 0 ++ l2) f) := Lib.hid (by rw [List.drop_zero, HA.out]; exact hF1.out)
        go_loopw [12, 13, 14] (fun la li i ws => ∃ (j : Nat) (x y : Int), la = .int .i64 x ∧ li = .int .i64 y ∧ i = .int .i64 j ∧ j ≤ ot.length ∧ Hid ((j = 0 ∧ x = 0 ∧ y = -1) ∨ ∃ h : j - 1 < ot.length, 0 < j ∧ x = ot[j - 1].2 ∧ y = ot[j - 1].1) ∧ Hid (ButC (fun q => q = bA) w3 ws) ∧ Hid (∃ f, On15 w ws C2 g N m l2 bA f ∧ DueW (ot.drop j ++ l2) f)) (fun _ _ i _ => ot.length - (intOf i).toNat)
        case atStart => exact ⟨0, 0, -1, rfl, rfl, rfl, Nat.zero_le _, Lib.hid (.inl ⟨rfl, rfl, rfl⟩), Lib.hid (ButC.refl _ _), Lib.hid ⟨f, hT2.out, HD1.out⟩⟩
        case round =>
          clear HD1 hF1
          obtain ⟨j, x, y, rfl, rfl, rfl, hj, hpr, hbut, hst⟩ := hrel
          by_cases hjl : j < ot.length
          · have hjl' : (j : Int) < ot.length := by omega
            obtain ⟨b1, o1, rfl, hb1, k1⟩ := HE.out j hjl
            have y0 := hbut.out.cell k1.1 hb1
            have y1 := hbut.out.cell k1.2 hb1
            obtain ⟨f, T4, F4⟩ := hst.out
            have hmem : ot[j] ∈ ot := List.getElem_mem hjl
            have hle := (HTO.out _ hmem).2
            rw [List.drop_eq_getElem_cons hjl, List.cons_append] at F4
            have hu : (ot[j] :: (ot.drop (j + 1) ++ l2)).Pairwise (fun a b => a.1 ≠ b.1) := by
              have h := HG1.out.u
              rw [← HA.out] at h
              refine List.Pairwise.sublist ?_ h
              rw [← List.cons_append, ← List.drop_eq_getElem_cons hjl]
              exact List.Sublist.append (List.drop_sublist _ _) (List.Sublist.refl _)
            obtain ⟨hfe, hse, hnx⟩ := F4.tell hu
            have hpos := (F4.i ot[j] (List.mem_cons_self ..)).2.1
            have hah : x < ot[j].2 ∨ (ot[j].2 = x ∧ y < ot[j].1) := by
              rcases hpr.out with ⟨_, rfl, rfl⟩ | ⟨h, h0, rfl, rfl⟩
              · exact .inl hpos
              · have ho := HG1.out.o
                rw [← HA.out] at ho
                have := List.pairwise_iff_getElem.1 (List.pairwise_append.1 ho).1 (j - 1) j h hjl (by omega)
                rw [ahead_iff] at this
                omega
            generalize hs1 : ot[j].1 = s1 at y0 hfe hse hah hnx
            generalize ht1 : ot[j].2 = t at y1 hle hpos hah hfe
            obtain ⟨s, rfl⟩ : ∃ s : Nat, s1 = s := ⟨s1.toNat, by omega⟩
            have HPR := Lib.hid (And.intro hs1 ht1)
            have hs256 : s < 256 := by omega
            have a0 := T4.r.1 s hs256
            rw [hfe] at a0
            have hT4 := Lib.hid T4
            have HNX := Lib.hid hnx
            have e1 : ¬ (s : Int) < 0 := by omega
            have e2 : ¬ (255 : Int) < s := by omega
            have e3 : (t != t) = false := by simp
            have e4 : ¬ (m : Int) < t := by omega
            have e5 : ¬ t < x := by omega
            have e6 : (0 : Int) ≤ (s : Int) + 1 := by omega
            have e7 : (s : Int) < 256 := by omega
            have hl3 : bA < wr.heap.size := hT4.out.r.lt
            have hne : bA ≠ wr.heap.size := by omega
            have HB0 := Lib.hid hbut.out
            clear hs1 ht1 hfe hse hu hnx hpos hpr hmem F4 T4 hst k1 hbut
            go_upto_region 26 with fail
            refine gen_world (F := fun W => (W.cell? ⟨wr.heap.size, 0, none⟩ = some (.int .i64 s) ∧ W.cell? ⟨wr.heap.size, 1, none⟩ = some (.int .i64 t)) ∧ W.cell? ⟨bA, s, none⟩ = some (.int .i64 t) ∧ Below wr.heap.size wr W) ⟨by simp [go_sem], (below_alloc (Nat.le_refl _) (Below.refl _ _) _).cell (p := ⟨bA, s, none⟩) hl3 |>.trans a0, below_alloc (Nat.le_refl _) (Below.refl _ _) _⟩ (fun w4 hF => ?_)
            obtain ⟨⟨v0, v1⟩, v2, hb4⟩ := hF
            have hT5 := Lib.hid (hT4.out.call hb4)
            have HB1 := Lib.hid (HB0.out.call hb4)
            clear hT4 HB0 hb4 a0 y0 y1
            go_cut [148] (fun bv wx => bv = .bool false ∧ ButC (fun q => q = bA) w3 wx ∧ On15 w wx C2 g N m l2 bA f ∧ wx.cell? ⟨wr.heap.size, 0, none⟩ = some (.int .i64 s) ∧ wx.cell? ⟨wr.heap.size, 1, none⟩ = some (.int .i64 t))
            case first =>
              by_cases htx : t = x
              · have e8 : (t == x) = true := by simp [htx]
                have e9 : ¬ (s : Int) ≤ y := by omega
                clear htx hah
                refine wp_region_held_drew (S := fun W => (W.cell? ⟨wr.heap.size, 0, none⟩ = some (.int .i64 s) ∧ W.cell? ⟨wr.heap.size, 1, none⟩ = some (.int .i64 t)) ∧ W.cell? ⟨bA, s, none⟩ = some (.int .i64 t)) (by kernel_rfl) (⟨⟨v0, v1⟩, v2⟩) (fun hHeld => ?_)
                (refine wpAnyH_take (i := 0) (v := ?_) rfl (by kernel_rfl) (by kernel_rfl) (by kernel_rfl) (fun _ _ _ h => h) (Or.inl ⟨by rfl, ?_⟩) (by assumption) ?_; rotate_left 1; (focus (intro wz hz; (try dsimp only at hz); (try simp only [List.getElem_toArray, List.getElem_cons_succ, List.getElem_cons_zero]); go_simp; (try (rw [if_neg (by (try simp only [ByteArray.size_append]); omega)])); try (with_reducible rfl); done)))
                try simp only [Act.put, List.getElem_toArray, List.getElem_cons_succ, List.getElem_cons_zero, List.setIfInBounds_toArray, List.set_cons_zero, List.set_cons_succ]
                (refine wpAnyH_take (i := 1) (v := ?_) rfl (by kernel_rfl) (by kernel_rfl) (by kernel_rfl) (fun _ _ _ h => h) (Or.inl ⟨by rfl, ?_⟩) (by assumption) ?_; rotate_left 1; (focus (intro wz hz; (try dsimp only at hz); (try simp only [List.getElem_toArray, List.getElem_cons_succ, List.getElem_cons_zero]); go_simp; (try (rw [if_neg (by (try simp only [ByteArray.size_append]); omega)])); try (with_reducible rfl); done)))
                try simp only [Act.put, List.getElem_toArray, List.getElem_cons_succ, List.getElem_cons_zero, List.setIfInBounds_toArray, List.set_cons_zero, List.set_cons_succ]
                (refine wpAnyH_take (i := 2) (v := ?_) rfl (by kernel_rfl) (by kernel_rfl) (by kernel_rfl) (fun _ _ _ h => h) (Or.inl ⟨by rfl, ?_⟩) (by assumption) ?_; rotate_left 1; (focus (intro wz hz; (try dsimp only at hz); (try simp only [List.getElem_toArray, List.getElem_cons_succ, List.getElem_cons_zero]); go_simp; (try (rw [if_neg (by (try simp only [ByteArray.size_append]); omega)])); try (with_reducible rfl); done)))
                try simp only [Act.put, List.getElem_toArray, List.getElem_cons_succ, List.getElem_cons_zero, List.setIfInBounds_toArray, List.set_cons_zero, List.set_cons_succ]
                (refine wpAnyH_take (i := 3) (v := ?_) rfl (by kernel_rfl) (by kernel_rfl) (by kernel_rfl) (fun _ _ _ h => h) (Or.inl ⟨by rfl, ?_⟩) (by assumption) ?_; rotate_left 1; (focus (intro wz hz; (try dsimp only at hz); (try simp only [List.getElem_toArray, List.getElem_cons_succ, List.getElem_cons_zero]); go_simp; (try (rw [if_neg (by (try simp only [ByteArray.size_append]); omega)])); try (with_reducible rfl); done)))
                try simp only [Act.put, List.getElem_toArray, List.getElem_cons_succ, List.getElem_cons_zero, List.setIfInBounds_toArray, List.set_cons_zero, List.set_cons_succ]
                first | (refine wpAnyH_take (i := 4) (v := ?_) rfl (by kernel_rfl) (by kernel_rfl) (by kernel_rfl) (fun _ _ _ h => h) (Or.inl ⟨by rfl, ?_⟩) (by assumption) ?_; rotate_left 1; (focus (intro wz hz; (try dsimp only at hz); (try simp only [List.getElem_toArray, List.getElem_cons_succ, List.getElem_cons_zero]); go_simp; (try (rw [if_neg (by (try simp only [ByteArray.size_append]); omega)])); try (with_reducible rfl); done))) | (refine wpAnyH_take (i := 4) (v := undef) rfl (by kernel_rfl) (by kernel_rfl) (by kernel_rfl) (fun _ _ _ h => h) (Or.inr ⟨by rfl, rfl⟩) (by assumption) ?_)
                try simp only [Act.put, List.getElem_toArray, List.getElem_cons_succ, List.getElem_cons_zero, List.setIfInBounds_toArray, List.set_cons_zero, List.set_cons_succ]
                first | (refine wpAnyH_take (i := 5) (v := ?_) rfl (by kernel_rfl) (by kernel_rfl) (by kernel_rfl) (fun _ _ _ h => h) (Or.inl ⟨by rfl, ?_⟩) (by assumption) ?_; rotate_left 1; (focus (intro wz hz; (try dsimp only at hz); (try simp only [List.getElem_toArray, List.getElem_cons_succ, List.getElem_cons_zero]); go_simp; (try (rw [if_neg (by (try simp only [ByteArray.size_append]); omega)])); try (with_reducible rfl); done))) | (refine wpAnyH_take (i := 5) (v := undef) rfl (by kernel_rfl) (by kernel_rfl) (by kernel_rfl) (fun _ _ _ h => h) (Or.inr ⟨by rfl, rfl⟩) (by assumption) ?_)
                try simp only [Act.put, List.getElem_toArray, List.getElem_cons_succ, List.getElem_cons_zero, List.setIfInBounds_toArray, List.set_cons_zero, List.set_cons_succ]
                first | (refine wpAnyH_take (i := 6) (v := ?_) rfl (by kernel_rfl) (by kernel_rfl) (by kernel_rfl) (fun _ _ _ h => h) (Or.inl ⟨by rfl, ?_⟩) (by assumption) ?_; rotate_left 1; (focus (intro wz hz; (try dsimp only at hz); (try simp only [List.getElem_toArray, List.getElem_cons_succ, List.getElem_cons_zero]); go_simp; (try (rw [if_neg (by (try simp only [ByteArray.size_append]); omega)])); try (with_reducible rfl); done))) | (refine wpAnyH_take (i := 6) (v := undef) rfl (by kernel_rfl) (by kernel_rfl) (by kernel_rfl) (fun _ _ _ h => h) (Or.inr ⟨by rfl, rfl⟩) (by assumption) ?_)
                try simp only [Act.put, List.getElem_toArray, List.getElem_cons_succ, List.getElem_cons_zero, List.setIfInBounds_toArray, List.set_cons_zero, List.set_cons_succ]
                (refine wpAnyH_take (i := 7) (v := ?_) rfl (by kernel_rfl) (by kernel_rfl) (by kernel_rfl) (fun _ _ _ h => h) (Or.inl ⟨by rfl, ?_⟩) (by assumption) ?_; rotate_left 1; (focus (intro wz hz; (try dsimp only at hz); (try simp only [List.getElem_toArray, List.getElem_cons_succ, List.getElem_cons_zero]); go_simp; (try (rw [if_neg (by (try simp only [ByteArray.size_append]); omega)])); try (with_reducible rfl); done)))
                try simp only [Act.put, List.getElem_toArray, List.getElem_cons_succ, List.getElem_cons_zero, List.setIfInBounds_toArray, List.set_cons_zero, List.set_cons_succ]
                (refine wpAnyH_take (i := 8) (v := ?_) rfl (by kernel_rfl) (by kernel_rfl) (by kernel_rfl) (fun _ _ _ h => h) (Or.inl ⟨by rfl, ?_⟩) (by assumption) ?_; rotate_left 1; (focus (intro wz hz; (try dsimp only at hz); (try simp only [List.getElem_toArray, List.getElem_cons_succ, List.getElem_cons_zero]); go_simp; (try (rw [if_neg (by (try simp only [ByteArray.size_append]); omega)])); try (with_reducible rfl); done)))
                try simp only [Act.put, List.getElem_toArray, List.getElem_cons_succ, List.getElem_cons_zero, List.setIfInBounds_toArray, List.set_cons_zero, List.set_cons_succ]
                first | (refine wpAnyH_take (i := 9) (v := ?_) rfl (by kernel_rfl) (by kernel_rfl) (by kernel_rfl) (fun _ _ _ h => h) (Or.inl ⟨by rfl, ?_⟩) (by assumption) ?_; rotate_left 1; (focus (intro wz hz; (try dsimp only at hz); (try simp only [List.getElem_toArray, List.getElem_cons_succ, List.getElem_cons_zero]); go_simp; (try (rw [if_neg (by (try simp only [ByteArray.size_append]); omega)])); try (with_reducible rfl); done))) | (refine wpAnyH_take (i := 9) (v := undef) rfl (by kernel_rfl) (by kernel_rfl) (by kernel_rfl) (fun _ _ _ h => h) (Or.inr ⟨by rfl, rfl⟩) (by assumption) ?_)
                try simp only [Act.put, List.getElem_toArray, List.getElem_cons_succ, List.getElem_cons_zero, List.setIfInBounds_toArray, List.set_cons_zero, List.set_cons_succ]
                first | (refine wpAnyH_take (i := 13) (v := ?_) rfl (by kernel_rfl) (by kernel_rfl) (by kernel_rfl) (fun _ _ _ h => h) (Or.inl ⟨by rfl, ?_⟩) (by assumption) ?_; rotate_left 1; (focus (intro wz hz; (try dsimp only at hz); (try simp only [List.getElem_toArray, List.getElem_cons_succ, List.getElem_cons_zero]); go_simp; (try (rw [if_neg (by (try simp only [ByteArray.size_append]); omega)])); try (with_reducible rfl); done))) | (refine wpAnyH_take (i := 13) (v := undef) rfl (by kernel_rfl) (by kernel_rfl) (by kernel_rfl) (fun _ _ _ h => h) (Or.inr ⟨by rfl, rfl⟩) (by assumption) ?_)
                try simp only [Act.put, List.getElem_toArray, List.getElem_cons_succ, List.getElem_cons_zero, List.setIfInBounds_toArray, List.set_cons_zero, List.set_cons_succ]
                first | (refine wpAnyH_take (i := 10) (v := ?_) rfl (by kernel_rfl) (by kernel_rfl) (by kernel_rfl) (fun _ _ _ h => h) (Or.inl ⟨by rfl, ?_⟩) (by assumption) ?_; rotate_left 1; (focus (intro wz hz; (try dsimp only at hz); (try simp only [List.getElem_toArray, List.getElem_cons_succ, List.getElem_cons_zero]); go_simp; (try (rw [if_neg (by (try simp only [ByteArray.size_append]); omega)])); try (with_reducible rfl); done))) | (refine wpAnyH_take (i := 10) (v := undef) rfl (by kernel_rfl) (by kernel_rfl) (by kernel_rfl) (fun _ _ _ h => h) (Or.inr ⟨by rfl, rfl⟩) (by assumption) ?_)
                try simp only [Act.put, List.getElem_toArray, List.getElem_cons_succ, List.getElem_cons_zero, List.setIfInBounds_toArray, List.set_cons_zero, List.set_cons_succ]
                first | (refine wpAnyH_take (i := 14) (v := ?_) rfl (by kernel_rfl) (by kernel_rfl) (by kernel_rfl) (fun _ _ _ h => h) (Or.inl ⟨by rfl, ?_⟩) (by assumption) ?_; rotate_left 1; (focus (intro wz hz; (try dsimp only at hz); (try simp only [List.getElem_toArray, List.getElem_cons_succ, List.getElem_cons_zero]); go_simp; (try (rw [if_neg (by (try simp only [ByteArray.size_append]); omega)])); try (with_reducible rfl); done))) | (refine wpAnyH_take (i := 14) (v := undef) rfl (by kernel_rfl) (by kernel_rfl) (by kernel_rfl) (fun _ _ _ h => h) (Or.inr ⟨by rfl, rfl⟩) (by assumption) ?_)
                try simp only [Act.put, List.getElem_toArray, List.getElem_cons_succ, List.getElem_cons_zero, List.setIfInBounds_toArray, List.set_cons_zero, List.set_cons_succ]
                first | (refine wpAnyH_take (i := 11) (v := ?_) rfl (by kernel_rfl) (by kernel_rfl) (by kernel_rfl) (fun _ _ _ h => h) (Or.inl ⟨by rfl, ?_⟩) (by assumption) ?_; rotate_left 1; (focus (intro wz hz; (try dsimp only at hz); (try simp only [List.getElem_toArray, List.getElem_cons_succ, List.getElem_cons_zero]); go_simp; (try (rw [if_neg (by (try simp only [ByteArray.size_append]); omega)])); try (with_reducible rfl); done))) | (refine wpAnyH_take (i := 11) (v := undef) rfl (by kernel_rfl) (by kernel_rfl) (by kernel_rfl) (fun _ _ _ h => h) (Or.inr ⟨by rfl, rfl⟩) (by assumption) ?_)
                try simp only [Act.put, List.getElem_toArray, List.getElem_cons_succ, List.getElem_cons_zero, List.setIfInBounds_toArray, List.set_cons_zero, List.set_cons_succ]
                first | (refine wpAnyH_take (i := 12) (v := ?_) rfl (by kernel_rfl) (by kernel_rfl) (by kernel_rfl) (fun _ _ _ h => h) (Or.inl ⟨by rfl, ?_⟩) (by assumption) ?_; rotate_left 1; (focus (intro wz hz; (try dsimp only at hz); (try simp only [List.getElem_toArray, List.getElem_cons_succ, List.getElem_cons_zero]); go_simp; (try (rw [if_neg (by (try simp only [ByteArray.size_append]); omega)])); try (with_reducible rfl); done))) | (refine wpAnyH_take (i := 12) (v := undef) rfl (by kernel_rfl) (by kernel_rfl) (by kernel_rfl) (fun _ _ _ h => h) (Or.inr ⟨by rfl, rfl⟩) (by assumption) ?_)
                try simp only [Act.put, List.getElem_toArray, List.getElem_cons_succ, List.getElem_cons_zero, List.setIfInBounds_toArray, List.set_cons_zero, List.set_cons_succ]
                first | (refine wpAnyH_take (i := 15) (v := ?_) rfl (by kernel_rfl) (by kernel_rfl) (by kernel_rfl) (fun _ _ _ h => h) (Or.inl ⟨by rfl, ?_⟩) (by assumption) ?_; rotate_left 1; (focus (intro wz hz; (try dsimp only at hz); (try simp only [List.getElem_toArray, List.getElem_cons_succ, List.getElem_cons_zero]); go_simp; (try (rw [if_neg (by (try simp only [ByteArray.size_append]); omega)])); try (with_reducible rfl); done))) | (refine wpAnyH_take (i := 15) (v := undef) rfl (by kernel_rfl) (by kernel_rfl) (by kernel_rfl) (fun _ _ _ h => h) (Or.inr ⟨by rfl, rfl⟩) (by assumption) ?_)
                try simp only [Act.put, List.getElem_toArray, List.getElem_cons_succ, List.getElem_cons_zero, List.setIfInBounds_toArray, List.set_cons_zero, List.set_cons_succ]
                (refine wpAnyH_take (i := 16) (v := ?_) rfl (by kernel_rfl) (by kernel_rfl) (by kernel_rfl) (fun _ _ _ h => h) (Or.inl ⟨by rfl, ?_⟩) (by assumption) ?_; rotate_left 1; (focus (intro wz hz; (try dsimp only at hz); (try simp only [List.getElem_toArray, List.getElem_cons_succ, List.getElem_cons_zero]); go_simp; (try (rw [if_neg (by (try simp only [ByteArray.size_append]); omega)])); try (with_reducible rfl); done)))
                try simp only [Act.put, List.getElem_toArray, List.getElem_cons_succ, List.getElem_cons_zero, List.setIfInBounds_toArray, List.set_cons_zero, List.set_cons_succ]
                (refine wpAnyH_take (i := 17) (v := ?_) rfl (by kernel_rfl) (by kernel_rfl) (by kernel_rfl) (fun _ _ _ h => h) (Or.inl ⟨by rfl, ?_⟩) (by assumption) ?_; rotate_left 1; (focus (intro wz hz; (try dsimp only at hz); (try simp only [List.getElem_toArray, List.getElem_cons_succ, List.getElem_cons_zero]); go_simp; (try (rw [if_neg (by (try simp only [ByteArray.size_append]); omega)])); try (with_reducible rfl); done)))
                try simp only [Act.put, List.getElem_toArray, List.getElem_cons_succ, List.getElem_cons_zero, List.setIfInBounds_toArray, List.set_cons_zero, List.set_cons_succ]
                first | (refine wpAnyH_take (i := 18) (v := ?_) rfl (by kernel_rfl) (by kernel_rfl) (by kernel_rfl) (fun _ _ _ h => h) (Or.inl ⟨by rfl, ?_⟩) (by assumption) ?_; rotate_left 1; (focus (intro wz hz; (try dsimp only at hz); (try simp only [List.getElem_toArray, List.getElem_cons_succ, List.getElem_cons_zero]); go_simp; (try (rw [if_neg (by (try simp only [ByteArray.size_append]); omega)])); try (with_reducible rfl); done))) | (refine wpAnyH_take (i := 18) (v := undef) rfl (by kernel_rfl) (by kernel_rfl) (by kernel_rfl) (fun _ _ _ h => h) (Or.inr ⟨by rfl, rfl⟩) (by assumption) ?_)
                try simp only [Act.put, List.getElem_toArray, List.getElem_cons_succ, List.getElem_cons_zero, List.setIfInBounds_toArray, List.set_cons_zero, List.set_cons_succ]
                first | (refine wpAnyH_take (i := 20) (v := ?_) rfl (by kernel_rfl) (by kernel_rfl) (by kernel_rfl) (fun _ _ _ h => h) (Or.inl ⟨by rfl, ?_⟩) (by assumption) ?_; rotate_left 1; (focus (intro wz hz; (try dsimp only at hz); (try simp only [List.getElem_toArray, List.getElem_cons_succ, List.getElem_cons_zero]); go_simp; (try (rw [if_neg (by (try simp only [ByteArray.size_append]); omega)])); try (with_reducible rfl); done))) | (refine wpAnyH_take (i := 20) (v := undef) rfl (by kernel_rfl) (by kernel_rfl) (by kernel_rfl) (fun _ _ _ h => h) (Or.inr ⟨by rfl, rfl⟩) (by assumption) ?_)
                try simp only [Act.put, List.getElem_toArray, List.getElem_cons_succ, List.getElem_cons_zero, List.setIfInBounds_toArray, List.set_cons_zero, List.set_cons_succ]
                first | (refine wpAnyH_take (i := 19) (v := ?_) rfl (by kernel_rfl) (by kernel_rfl) (by kernel_rfl) (fun _ _ _ h => h) (Or.inl ⟨by rfl, ?_⟩) (by assumption) ?_; rotate_left 1; (focus (intro wz hz; (try dsimp only at hz); (try simp only [List.getElem_toArray, List.getElem_cons_succ, List.getElem_cons_zero]); go_simp; (try (rw [if_neg (by (try simp only [ByteArray.size_append]); omega)])); try (with_reducible rfl); done))) | (refine wpAnyH_take (i := 19) (v := undef) rfl (by kernel_rfl) (by kernel_rfl) (by kernel_rfl) (fun _ _ _ h => h) (Or.inr ⟨by rfl, rfl⟩) (by assumption) ?_)
                try simp only [Act.put, List.getElem_toArray, List.getElem_cons_succ, List.getElem_cons_zero, List.setIfInBounds_toArray, List.set_cons_zero, List.set_cons_succ]
                first | (refine wpAnyH_take (i := 21) (v := ?_) rfl (by kernel_rfl) (by kernel_rfl) (by kernel_rfl) (fun _ _ _ h => h) (Or.inl ⟨by rfl, ?_⟩) (by assumption) ?_; rotate_left 1; (focus (intro wz hz; (try dsimp only at hz); (try simp only [List.getElem_toArray, List.getElem_cons_succ, List.getElem_cons_zero]); go_simp; (try (rw [if_neg (by (try simp only [ByteArray.size_append]); omega)])); try (with_reducible rfl); done))) | (refine wpAnyH_take (i := 21) (v := undef) rfl (by kernel_rfl) (by kernel_rfl) (by kernel_rfl) (fun _ _ _ h => h) (Or.inr ⟨by rfl, rfl⟩) (by assumption) ?_)
                try simp only [Act.put, List.getElem_toArray, List.getElem_cons_succ, List.getElem_cons_zero, List.setIfInBounds_toArray, List.set_cons_zero, List.set_cons_succ]
                (refine wpAnyH_take (i := 22) (v := ?_) rfl (by kernel_rfl) (by kernel_rfl) (by kernel_rfl) (fun _ _ _ h => h) (Or.inl ⟨by rfl, ?_⟩) (by assumption) ?_; rotate_left 1; (focus (intro wz hz; (try dsimp only at hz); (try simp only [List.getElem_toArray, List.getElem_cons_succ, List.getElem_cons_zero]); go_simp; (try (rw [if_neg (by (try simp only [ByteArray.size_append]); omega)])); try (with_reducible rfl); done)))
                try simp only [Act.put, List.getElem_toArray, List.getElem_cons_succ, List.getElem_cons_zero, List.setIfInBounds_toArray, List.set_cons_zero, List.set_cons_succ]
                (refine wpAnyH_take (i := 23) (v := ?_) rfl (by kernel_rfl) (by kernel_rfl) (by kernel_rfl) (fun _ _ _ h => h) (Or.inl ⟨by rfl, ?_⟩) (by assumption) ?_; rotate_left 1; (focus (intro wz hz; (try dsimp only at hz); (try simp only [List.getElem_toArray, List.getElem_cons_succ, List.getElem_cons_zero]); go_simp; (try (rw [if_neg (by (try simp only [ByteArray.size_append]); omega)])); try (with_reducible rfl); done)))
                try simp only [Act.put, List.getElem_toArray, List.getElem_cons_succ, List.getElem_cons_zero, List.setIfInBounds_toArray, List.set_cons_zero, List.set_cons_succ]
                first | (refine wpAnyH_take (i := 24) (v := ?_) rfl (by kernel_rfl) (by kernel_rfl) (by kernel_rfl) (fun _ _ _ h => h) (Or.inl ⟨by rfl, ?_⟩) (by assumption) ?_; rotate_left 1; (focus (intro wz hz; (try dsimp only at hz); (try simp only [List.getElem_toArray, List.getElem_cons_succ, List.getElem_cons_zero]); go_simp; (try (rw [if_neg (by (try simp only [ByteArray.size_append]); omega)])); try (with_reducible rfl); done))) | (refine wpAnyH_take (i := 24) (v := undef) rfl (by kernel_rfl) (by kernel_rfl) (by kernel_rfl) (fun _ _ _ h => h) (Or.inr ⟨by rfl, rfl⟩) (by assumption) ?_)
                try simp only [Act.put, List.getElem_toArray, List.getElem_cons_succ, List.getElem_cons_zero, List.setIfInBounds_toArray, List.set_cons_zero, List.set_cons_succ]
                first | (refine wpAnyH_take (i := 26) (v := ?_) rfl (by kernel_rfl) (by kernel_rfl) (by kernel_rfl) (fun _ _ _ h => h) (Or.inl ⟨by rfl, ?_⟩) (by assumption) ?_; rotate_left 1; (focus (intro wz hz; (try dsimp only at hz); (try simp only [List.getElem_toArray, List.getElem_cons_succ, List.getElem_cons_zero]); go_simp; (try (rw [if_neg (by (try simp only [ByteArray.size_append]); omega)])); try (with_reducible rfl); done))) | (refine wpAnyH_take (i := 26) (v := undef) rfl (by kernel_rfl) (by kernel_rfl) (by kernel_rfl) (fun _ _ _ h => h) (Or.inr ⟨by rfl, rfl⟩) (by assumption) ?_)
                try simp only [Act.put, List.getElem_toArray, List.getElem_cons_succ, List.getElem_cons_zero, List.setIfInBounds_toArray, List.set_cons_zero, List.set_cons_succ]
                first | (refine wpAnyH_take (i := 25) (v := ?_) rfl (by kernel_rfl) (by kernel_rfl) (by kernel_rfl) (fun _ _ _ h => h) (Or.inl ⟨by rfl, ?_⟩) (by assumption) ?_; rotate_left 1; (focus (intro wz hz; (try dsimp only at hz); (try simp only [List.getElem_toArray, List.getElem_cons_succ, List.getElem_cons_zero]); go_simp; (try (rw [if_neg (by (try simp only [ByteArray.size_append]); omega)])); try (with_reducible rfl); done))) | (refine wpAnyH_take (i := 25) (v := undef) rfl (by kernel_rfl) (by kernel_rfl) (by kernel_rfl) (fun _ _ _ h => h) (Or.inr ⟨by rfl, rfl⟩) (by assumption) ?_)
                try simp only [Act.put, List.getElem_toArray, List.getElem_cons_succ, List.getElem_cons_zero, List.setIfInBounds_toArray, List.set_cons_zero, List.set_cons_succ]
                first | (refine wpAnyH_take (i := 27) (v := ?_) rfl (by kernel_rfl) (by kernel_rfl) (by kernel_rfl) (fun _ _ _ h => h) (Or.inl ⟨by rfl, ?_⟩) (by assumption) ?_; rotate_left 1; (focus (intro wz hz; (try dsimp only at hz); (try simp only [List.getElem_toArray, List.getElem_cons_succ, List.getElem_cons_zero]); go_simp; (try (rw [if_neg (by (try simp only [ByteArray.size_append]); omega)])); try (with_reducible rfl); done))) | (refine wpAnyH_take (i := 27) (v := undef) rfl (by kernel_rfl) (by kernel_rfl) (by kernel_rfl) (fun _ _ _ h => h) (Or.inr ⟨by rfl, rfl⟩) (by assumption) ?_)
                try simp only [Act.put, List.getElem_toArray, List.getElem_cons_succ, List.getElem_cons_zero, List.setIfInBounds_toArray, List.set_cons_zero, List.set_cons_succ]
                (refine wpAnyH_take (i := 28) (v := ?_) rfl (by kernel_rfl) (by kernel_rfl) (by kernel_rfl) (fun _ _ _ h => h) (Or.inl ⟨by rfl, ?_⟩) (by assumption) ?_; rotate_left 1; (focus (intro wz hz; (try dsimp only at hz); (try simp only [List.getElem_toArray, List.getElem_cons_succ, List.getElem_cons_zero]); go_simp; (try (rw [if_neg (by (try simp only [ByteArray.size_append]); omega)])); try (with_reducible rfl); done)))
                try simp only [Act.put, List.getElem_toArray, List.getElem_cons_succ, List.getElem_cons_zero, List.setIfInBounds_toArray, List.set_cons_zero, List.set_cons_succ]
                (refine wpAnyH_take (i := 29) (v := ?_) rfl (by kernel_rfl) (by kernel_rfl) (by kernel_rfl) (fun _ _ _ h => h) (Or.inl ⟨by rfl, ?_⟩) (by assumption) ?_; rotate_left 1; (focus (intro wz hz; (try dsimp only at hz); (try simp only [List.getElem_toArray, List.getElem_cons_succ, List.getElem_cons_zero]); go_simp; (try (rw [if_neg (by (try simp only [ByteArray.size_append]); omega)])); try (with_reducible rfl); done)))
                try simp only [Act.put, List.getElem_toArray, List.getElem_cons_succ, List.getElem_cons_zero, List.setIfInBounds_toArray, List.set_cons_zero, List.set_cons_succ]
                first | (refine wpAnyH_take (i := 30) (v := ?_) rfl (by kernel_rfl) (by kernel_rfl) (by kernel_rfl) (fun _ _ _ h => h) (Or.inl ⟨by rfl, ?_⟩) (by assumption) ?_; rotate_left 1; (focus (intro wz hz; (try dsimp only at hz); (try simp only [List.getElem_toArray, List.getElem_cons_succ, List.getElem_cons_zero]); go_simp; (try (rw [if_neg (by (try simp only [ByteArray.size_append]); omega)])); try (with_reducible rfl); done))) | (refine wpAnyH_take (i := 30) (v := undef) rfl (by kernel_rfl) (by kernel_rfl) (by kernel_rfl) (fun _ _ _ h => h) (Or.inr ⟨by rfl, rfl⟩) (by assumption) ?_)
                try simp only [Act.put, List.getElem_toArray, List.getElem_cons_succ, List.getElem_cons_zero, List.setIfInBounds_toArray, List.set_cons_zero, List.set_cons_succ]
                first | (refine wpAnyH_take (i := 32) (v := ?_) rfl (by kernel_rfl) (by kernel_rfl) (by kernel_rfl) (fun _ _ _ h => h) (Or.inl ⟨by rfl, ?_⟩) (by assumption) ?_; rotate_left 1; (focus (intro wz hz; (try dsimp only at hz); (try simp only [List.getElem_toArray, List.getElem_cons_succ, List.getElem_cons_zero]); go_simp; (try (rw [if_neg (by (try simp only [ByteArray.size_append]); omega)])); try (with_reducible rfl); done))) | (refine wpAnyH_take (i := 32) (v := undef) rfl (by kernel_rfl) (by kernel_rfl) (by kernel_rfl) (fun _ _ _ h => h) (Or.inr ⟨by rfl, rfl⟩) (by assumption) ?_)
                try simp only [Act.put, List.getElem_toArray, List.getElem_cons_succ, List.getElem_cons_zero, List.setIfInBounds_toArray, List.set_cons_zero, List.set_cons_succ]
                first | (refine wpAnyH_take (i := 31) (v := ?_) rfl (by kernel_rfl) (by kernel_rfl) (by kernel_rfl) (fun _ _ _ h => h) (Or.inl ⟨by rfl, ?_⟩) (by assumption) ?_; rotate_left 1; (focus (intro wz hz; (try dsimp only at hz); (try simp only [List.getElem_toArray, List.getElem_cons_succ, List.getElem_cons_zero]); go_simp; (try (rw [if_neg (by (try simp only [ByteArray.size_append]); omega)])); try (with_reducible rfl); done))) | (refine wpAnyH_take (i := 31) (v := undef) rfl (by kernel_rfl) (by kernel_rfl) (by kernel_rfl) (fun _ _ _ h => h) (Or.inr ⟨by rfl, rfl⟩) (by assumption) ?_)
                try simp only [Act.put, List.getElem_toArray, List.getElem_cons_succ, List.getElem_cons_zero, List.setIfInBounds_toArray, List.set_cons_zero, List.set_cons_succ]
                first | (refine wpAnyH_take (i := 33) (v := ?_) rfl (by kernel_rfl) (by kernel_rfl) (by kernel_rfl) (fun _ _ _ h => h) (Or.inl ⟨by rfl, ?_⟩) (by assumption) ?_; rotate_left 1; (focus (intro wz hz; (try dsimp only at hz); (try simp only [List.getElem_toArray, List.getElem_cons_succ, List.getElem_cons_zero]); go_simp; (try (rw [if_neg (by (try simp only [ByteArray.size_append]); omega)])); try (with_reducible rfl); done))) | (refine wpAnyH_take (i := 33) (v := undef) rfl (by kernel_rfl) (by kernel_rfl) (by kernel_rfl) (fun _ _ _ h => h) (Or.inr ⟨by rfl, rfl⟩) (by assumption) ?_)
                try simp only [Act.put, List.getElem_toArray, List.getElem_cons_succ, List.getElem_cons_zero, List.setIfInBounds_toArray, List.set_cons_zero, List.set_cons_succ]
                first | (refine wpAnyH_take (i := 34) (v := ?_) rfl (by kernel_rfl) (by kernel_rfl) (by kernel_rfl) (fun _ _ _ h => h) (Or.inl ⟨by rfl, ?_⟩) (by assumption) ?_; rotate_left 1; (focus (intro wz hz; (try dsimp only at hz); (try simp only [List.getElem_toArray, List.getElem_cons_succ, List.getElem_cons_zero]); go_simp; (try (rw [if_neg (by (try simp only [ByteArray.size_append]); omega)])); try (with_reducible rfl); done))) | (refine wpAnyH_take (i := 34) (v := undef) rfl (by kernel_rfl) (by kernel_rfl) (by kernel_rfl) (fun _ _ _ h => h) (Or.inr ⟨by rfl, rfl⟩) (by assumption) ?_)
                try simp only [Act.put, List.getElem_toArray, List.getElem_cons_succ, List.getElem_cons_zero, List.setIfInBounds_toArray, List.set_cons_zero, List.set_cons_succ]
                first | (refine wpAnyH_take (i := 35) (v := ?_) rfl (by kernel_rfl) (by kernel_rfl) (by kernel_rfl) (fun _ _ _ h => h) (Or.inl ⟨by rfl, ?_⟩) (by assumption) ?_; rotate_left 1; (focus (intro wz hz; (try dsimp only at hz); (try simp only [List.getElem_toArray, List.getElem_cons_succ, List.getElem_cons_zero]); go_simp; (try (rw [if_neg (by (try simp only [ByteArray.size_append]); omega)])); try (with_reducible rfl); done))) | (refine wpAnyH_take (i := 35) (v := undef) rfl (by kernel_rfl) (by kernel_rfl) (by kernel_rfl) (fun _ _ _ h => h) (Or.inr ⟨by rfl, rfl⟩) (by assumption) ?_)
                try simp only [Act.put, List.getElem_toArray, List.getElem_cons_succ, List.getElem_cons_zero, List.setIfInBounds_toArray, List.set_cons_zero, List.set_cons_succ]
                first | (refine wpAnyH_take (i := 37) (v := ?_) rfl (by kernel_rfl) (by kernel_rfl) (by kernel_rfl) (fun _ _ _ h => h) (Or.inl ⟨by rfl, ?_⟩) (by assumption) ?_; rotate_left 1; (focus (intro wz hz; (try dsimp only at hz); (try simp only [List.getElem_toArray, List.getElem_cons_succ, List.getElem_cons_zero]); go_simp; (try (rw [if_neg (by (try simp only [ByteArray.size_append]); omega)])); try (with_reducible rfl); done))) | (refine wpAnyH_take (i := 37) (v := undef) rfl (by kernel_rfl) (by kernel_rfl) (by kernel_rfl) (fun _ _ _ h => h) (Or.inr ⟨by rfl, rfl⟩) (by assumption) ?_)
                try simp only [Act.put, List.getElem_toArray, List.getElem_cons_succ, List.getElem_cons_zero, List.setIfInBounds_toArray, List.set_cons_zero, List.set_cons_succ]
                first | (refine wpAnyH_take (i := 36) (v := ?_) rfl (by kernel_rfl) (by kernel_rfl) (by kernel_rfl) (fun _ _ _ h => h) (Or.inl ⟨by rfl, ?_⟩) (by assumption) ?_; rotate_left 1; (focus (intro wz hz; (try dsimp only at hz); (try simp only [List.getElem_toArray, List.getElem_cons_succ, List.getElem_cons_zero]); go_simp; (try (rw [if_neg (by (try simp only [ByteArray.size_append]); omega)])); try (with_reducible rfl); done))) | (refine wpAnyH_take (i := 36) (v := undef) rfl (by kernel_rfl) (by kernel_rfl) (by kernel_rfl) (fun _ _ _ h => h) (Or.inr ⟨by rfl, rfl⟩) (by assumption) ?_)
                try simp only [Act.put, List.getElem_toArray, List.getElem_cons_succ, List.getElem_cons_zero, List.setIfInBounds_toArray, List.set_cons_zero, List.set_cons_succ]
                first | (refine wpAnyH_take (i := 38) (v := ?_) rfl (by kernel_rfl) (by kernel_rfl) (by kernel_rfl) (fun _ _ _ h => h) (Or.inl ⟨by rfl, ?_⟩) (by assumption) ?_; rotate_left 1; (focus (intro wz hz; (try dsimp only at hz); (try simp only [List.getElem_toArray, List.getElem_cons_succ, List.getElem_cons_zero]); go_simp; (try (rw [if_neg (by (try simp only [ByteArray.size_append]); omega)])); try (with_reducible rfl); done))) | (refine wpAnyH_take (i := 38) (v := undef) rfl (by kernel_rfl) (by kernel_rfl) (by kernel_rfl) (fun _ _ _ h => h) (Or.inr ⟨by rfl, rfl⟩) (by assumption) ?_)
                try simp only [Act.put, List.getElem_toArray, List.getElem_cons_succ, List.getElem_cons_zero, List.setIfInBounds_toArray, List.set_cons_zero, List.set_cons_succ]
                first | (refine wpAnyH_take (i := 39) (v := ?_) rfl (by kernel_rfl) (by kernel_rfl) (by kernel_rfl) (fun _ _ _ h => h) (Or.inl ⟨by rfl, ?_⟩) (by assumption) ?_; rotate_left 1; (focus (intro wz hz; (try dsimp only at hz); (try simp only [List.getElem_toArray, List.getElem_cons_succ, List.getElem_cons_zero]); go_simp; (try (rw [if_neg (by (try simp only [ByteArray.size_append]); omega)])); try (with_reducible rfl); done))) | (refine wpAnyH_take (i := 39) (v := undef) rfl (by kernel_rfl) (by kernel_rfl) (by kernel_rfl) (fun _ _ _ h => h) (Or.inr ⟨by rfl, rfl⟩) (by assumption) ?_)
                try simp only [Act.put, List.getElem_toArray, List.getElem_cons_succ, List.getElem_cons_zero, List.setIfInBounds_toArray, List.set_cons_zero, List.set_cons_succ]
                (refine wpAnyH_take (i := 40) (v := ?_) rfl (by kernel_rfl) (by kernel_rfl) (by kernel_rfl) (fun _ _ _ h => h) (Or.inl ⟨by rfl, ?_⟩) (by assumption) ?_; rotate_left 1; (focus (intro wz hz; (try dsimp only at hz); (try simp only [List.getElem_toArray, List.getElem_cons_succ, List.getElem_cons_zero]); go_simp; (try (rw [if_neg (by (try simp only [ByteArray.size_append]); omega)])); try (with_reducible rfl); done)))
                try simp only [Act.put, List.getElem_toArray, List.getElem_cons_succ, List.getElem_cons_zero, List.setIfInBounds_toArray, List.set_cons_zero, List.set_cons_succ]
                refine wpAnyH_done (by kernel_rfl) ?_ _
                clear hHeld
                go_wp2
                go_meet
                have hbd := Below.drew (Below.refl w4.heap.size w4)
                exact ⟨rfl, HB1.out.call hbd, hT5.out.call hbd, v0, v1⟩
              · have e8 : (t == x) = false := by simp [htx]
                clear htx hah
                refine wp_region_held_drew (S := fun W => (W.cell? ⟨wr.heap.size, 0, none⟩ = some (.int .i64 s) ∧ W.cell? ⟨wr.heap.size, 1, none⟩ = some (.int .i64 t)) ∧ W.cell? ⟨bA, s, none⟩ = some (.int .i64 t)) (by kernel_rfl) (⟨⟨v0, v1⟩, v2⟩) (fun hHeld => ?_)
                (refine wpAnyH_take (i := 0) (v := ?_) rfl (by kernel_rfl) (by kernel_rfl) (by kernel_rfl) (fun _ _ _ h => h) (Or.inl ⟨by rfl, ?_⟩) (by assumption) ?_; rotate_left 1; (focus (intro wz hz; (try dsimp only at hz); (try simp only [List.getElem_toArray, List.getElem_cons_succ, List.getElem_cons_zero]); go_simp; (try (rw [if_neg (by (try simp only [ByteArray.size_append]); omega)])); try (with_reducible rfl); done)))
                try simp only [Act.put, List.getElem_toArray, List.getElem_cons_succ, List.getElem_cons_zero, List.setIfInBounds_toArray, List.set_cons_zero, List.set_cons_succ]
                (refine wpAnyH_take (i := 1) (v := ?_) rfl (by kernel_rfl) (by kernel_rfl) (by kernel_rfl) (fun _ _ _ h => h) (Or.inl ⟨by rfl, ?_⟩) (by assumption) ?_; rotate_left 1; (focus (intro wz hz; (try dsimp only at hz); (try simp only [List.getElem_toArray, List.getElem_cons_succ, List.getElem_cons_zero]); go_simp; (try (rw [if_neg (by (try simp only [ByteArray.size_append]); omega)])); try (with_reducible rfl); done)))
                try simp only [Act.put, List.getElem_toArray, List.getElem_cons_succ, List.getElem_cons_zero, List.setIfInBounds_toArray, List.set_cons_zero, List.set_cons_succ]
                (refine wpAnyH_take (i := 2) (v := ?_) rfl (by kernel_rfl) (by kernel_rfl) (by kernel_rfl) (fun _ _ _ h => h) (Or.inl ⟨by rfl, ?_⟩) (by assumption) ?_; rotate_left 1; (focus (intro wz hz; (try dsimp only at hz); (try simp only [List.getElem_toArray, List.getElem_cons_succ, List.getElem_cons_zero]); go_simp; (try (rw [if_neg (by (try simp only [ByteArray.size_append]); omega)])); try (with_reducible rfl); done)))
                try simp only [Act.put, List.getElem_toArray, List.getElem_cons_succ, List.getElem_cons_zero, List.setIfInBounds_toArray, List.set_cons_zero, List.set_cons_succ]
                (refine wpAnyH_take (i := 3) (v := ?_) rfl (by kernel_rfl) (by kernel_rfl) (by kernel_rfl) (fun _ _ _ h => h) (Or.inl ⟨by rfl, ?_⟩) (by assumption) ?_; rotate_left 1; (focus (intro wz hz; (try dsimp only at hz); (try simp only [List.getElem_toArray, List.getElem_cons_succ, List.getElem_cons_zero]); go_simp; (try (rw [if_neg (by (try simp only [ByteArray.size_append]); omega)])); try (with_reducible rfl); done)))
                try simp only [Act.put, List.getElem_toArray, List.getElem_cons_succ, List.getElem_cons_zero, List.setIfInBounds_toArray, List.set_cons_zero, List.set_cons_succ]
                first | (refine wpAnyH_take (i := 4) (v := ?_) rfl (by kernel_rfl) (by kernel_rfl) (by kernel_rfl) (fun _ _ _ h => h) (Or.inl ⟨by rfl, ?_⟩) (by assumption) ?_; rotate_left 1; (focus (intro wz hz; (try dsimp only at hz); (try simp only [List.getElem_toArray, List.getElem_cons_succ, List.getElem_cons_zero]); go_simp; (try (rw [if_neg (by (try simp only [ByteArray.size_append]); omega)])); try (with_reducible rfl); done))) | (refine wpAnyH_take (i := 4) (v := undef) rfl (by kernel_rfl) (by kernel_rfl) (by kernel_rfl) (fun _ _ _ h => h) (Or.inr ⟨by rfl, rfl⟩) (by assumption) ?_)
                try simp only [Act.put, List.getElem_toArray, List.getElem_cons_succ, List.getElem_cons_zero, List.setIfInBounds_toArray, List.set_cons_zero, List.set_cons_succ]
                first | (refine wpAnyH_take (i := 5) (v := ?_) rfl (by kernel_rfl) (by kernel_rfl) (by kernel_rfl) (fun _ _ _ h => h) (Or.inl ⟨by rfl, ?_⟩) (by assumption) ?_; rotate_left 1; (focus (intro wz hz; (try dsimp only at hz); (try simp only [List.getElem_toArray, List.getElem_cons_succ, List.getElem_cons_zero]); go_simp; (try (rw [if_neg (by (try simp only [ByteArray.size_append]); omega)])); try (with_reducible rfl); done))) | (refine wpAnyH_take (i := 5) (v := undef) rfl (by kernel_rfl) (by kernel_rfl) (by kernel_rfl) (fun _ _ _ h => h) (Or.inr ⟨by rfl, rfl⟩) (by assumption) ?_)
                try simp only [Act.put, List.getElem_toArray, List.getElem_cons_succ, List.getElem_cons_zero, List.setIfInBounds_toArray, List.set_cons_zero, List.set_cons_succ]
                first | (refine wpAnyH_take (i := 6) (v := ?_) rfl (by kernel_rfl) (by kernel_rfl) (by kernel_rfl) (fun _ _ _ h => h) (Or.inl ⟨by rfl, ?_⟩) (by assumption) ?_; rotate_left 1; (focus (intro wz hz; (try dsimp only at hz); (try simp only [List.getElem_toArray, List.getElem_cons_succ, List.getElem_cons_zero]); go_simp; (try (rw [if_neg (by (try simp only [ByteArray.size_append]); omega)])); try (with_reducible rfl); done))) | (refine wpAnyH_take (i := 6) (v := undef) rfl (by kernel_rfl) (by kernel_rfl) (by kernel_rfl) (fun _ _ _ h => h) (Or.inr ⟨by rfl, rfl⟩) (by assumption) ?_)
                try simp only [Act.put, List.getElem_toArray, List.getElem_cons_succ, List.getElem_cons_zero, List.setIfInBounds_toArray, List.set_cons_zero, List.set_cons_succ]
                (refine wpAnyH_take (i := 7) (v := ?_) rfl (by kernel_rfl) (by kernel_rfl) (by kernel_rfl) (fun _ _ _ h => h) (Or.inl ⟨by rfl, ?_⟩) (by assumption) ?_; rotate_left 1; (focus (intro wz hz; (try dsimp only at hz); (try simp only [List.getElem_toArray, List.getElem_cons_succ, List.getElem_cons_zero]); go_simp; (try (rw [if_neg (by (try simp only [ByteArray.size_append]); omega)])); try (with_reducible rfl); done)))
                try simp only [Act.put, List.getElem_toArray, List.getElem_cons_succ, List.getElem_cons_zero, List.setIfInBounds_toArray, List.set_cons_zero, List.set_cons_succ]
                (refine wpAnyH_take (i := 8) (v := ?_) rfl (by kernel_rfl) (by kernel_rfl) (by kernel_rfl) (fun _ _ _ h => h) (Or.inl ⟨by rfl, ?_⟩) (by assumption) ?_; rotate_left 1; (focus (intro wz hz; (try dsimp only at hz); (try simp only [List.getElem_toArray, List.getElem_cons_succ, List.getElem_cons_zero]); go_simp; (try (rw [if_neg (by (try simp only [ByteArray.size_append]); omega)])); try (with_reducible rfl); done)))
                try simp only [Act.put, List.getElem_toArray, List.getElem_cons_succ, List.getElem_cons_zero, List.setIfInBounds_toArray, List.set_cons_zero, List.set_cons_succ]
                first | (refine wpAnyH_take (i := 9) (v := ?_) rfl (by kernel_rfl) (by kernel_rfl) (by kernel_rfl) (fun _ _ _ h => h) (Or.inl ⟨by rfl, ?_⟩) (by assumption) ?_; rotate_left 1; (focus (intro wz hz; (try dsimp only at hz); (try simp only [List.getElem_toArray, List.getElem_cons_succ, List.getElem_cons_zero]); go_simp; (try (rw [if_neg (by (try simp only [ByteArray.size_append]); omega)])); try (with_reducible rfl); done))) | (refine wpAnyH_take (i := 9) (v := undef) rfl (by kernel_rfl) (by kernel_rfl) (by kernel_rfl) (fun _ _ _ h => h) (Or.inr ⟨by rfl, rfl⟩) (by assumption) ?_)
                try simp only [Act.put, List.getElem_toArray, List.getElem_cons_succ, List.getElem_cons_zero, List.setIfInBounds_toArray, List.set_cons_zero, List.set_cons_succ]
                first | (refine wpAnyH_take (i := 13) (v := ?_) rfl (by kernel_rfl) (by kernel_rfl) (by kernel_rfl) (fun _ _ _ h => h) (Or.inl ⟨by rfl, ?_⟩) (by assumption) ?_; rotate_left 1; (focus (intro wz hz; (try dsimp only at hz); (try simp only [List.getElem_toArray, List.getElem_cons_succ, List.getElem_cons_zero]); go_simp; (try (rw [if_neg (by (try simp only [ByteArray.size_append]); omega)])); try (with_reducible rfl); done))) | (refine wpAnyH_take (i := 13) (v := undef) rfl (by kernel_rfl) (by kernel_rfl) (by kernel_rfl) (fun _ _ _ h => h) (Or.inr ⟨by rfl, rfl⟩) (by assumption) ?_)
                try simp only [Act.put, List.getElem_toArray, List.getElem_cons_succ, List.getElem_cons_zero, List.setIfInBounds_toArray, List.set_cons_zero, List.set_cons_succ]
                first | (refine wpAnyH_take (i := 10) (v := ?_) rfl (by kernel_rfl) (by kernel_rfl) (by kernel_rfl) (fun _ _ _ h => h) (Or.inl ⟨by rfl, ?_⟩) (by assumption) ?_; rotate_left 1; (focus (intro wz hz; (try dsimp only at hz); (try simp only [List.getElem_toArray, List.getElem_cons_succ, List.getElem_cons_zero]); go_simp; (try (rw [if_neg (by (try simp only [ByteArray.size_append]); omega)])); try (with_reducible rfl); done))) | (refine wpAnyH_take (i := 10) (v := undef) rfl (by kernel_rfl) (by kernel_rfl) (by kernel_rfl) (fun _ _ _ h => h) (Or.inr ⟨by rfl, rfl⟩) (by assumption) ?_)
                try simp only [Act.put, List.getElem_toArray, List.getElem_cons_succ, List.getElem_cons_zero, List.setIfInBounds_toArray, List.set_cons_zero, List.set_cons_succ]
                first | (refine wpAnyH_take (i := 14) (v := ?_) rfl (by kernel_rfl) (by kernel_rfl) (by kernel_rfl) (fun _ _ _ h => h) (Or.inl ⟨by rfl, ?_⟩) (by assumption) ?_; rotate_left 1; (focus (intro wz hz; (try dsimp only at hz); (try simp only [List.getElem_toArray, List.getElem_cons_succ, List.getElem_cons_zero]); go_simp; (try (rw [if_neg (by (try simp only [ByteArray.size_append]); omega)])); try (with_reducible rfl); done))) | (refine wpAnyH_take (i := 14) (v := undef) rfl (by kernel_rfl) (by kernel_rfl) (by kernel_rfl) (fun _ _ _ h => h) (Or.inr ⟨by rfl, rfl⟩) (by assumption) ?_)
                try simp only [Act.put, List.getElem_toArray, List.getElem_cons_succ, List.getElem_cons_zero, List.setIfInBounds_toArray, List.set_cons_zero, List.set_cons_succ]
                first | (refine wpAnyH_take (i := 11) (v := ?_) rfl (by kernel_rfl) (by kernel_rfl) (by kernel_rfl) (fun _ _ _ h => h) (Or.inl ⟨by rfl, ?_⟩) (by assumption) ?_; rotate_left 1; (focus (intro wz hz; (try dsimp only at hz); (try simp only [List.getElem_toArray, List.getElem_cons_succ, List.getElem_cons_zero]); go_simp; (try (rw [if_neg (by (try simp only [ByteArray.size_append]); omega)])); try (with_reducible rfl); done))) | (refine wpAnyH_take (i := 11) (v := undef) rfl (by kernel_rfl) (by kernel_rfl) (by kernel_rfl) (fun _ _ _ h => h) (Or.inr ⟨by rfl, rfl⟩) (by assumption) ?_)
                try simp only [Act.put, List.getElem_toArray, List.getElem_cons_succ, List.getElem_cons_zero, List.setIfInBounds_toArray, List.set_cons_zero, List.set_cons_succ]
                first | (refine wpAnyH_take (i := 12) (v := ?_) rfl (by kernel_rfl) (by kernel_rfl) (by kernel_rfl) (fun _ _ _ h => h) (Or.inl ⟨by rfl, ?_⟩) (by assumption) ?_; rotate_left 1; (focus (intro wz hz; (try dsimp only at hz); (try simp only [List.getElem_toArray, List.getElem_cons_succ, List.getElem_cons_zero]); go_simp; (try (rw [if_neg (by (try simp only [ByteArray.size_append]); omega)])); try (with_reducible rfl); done))) | (refine wpAnyH_take (i := 12) (v := undef) rfl (by kernel_rfl) (by kernel_rfl) (by kernel_rfl) (fun _ _ _ h => h) (Or.inr ⟨by rfl, rfl⟩) (by assumption) ?_)
                try simp only [Act.put, List.getElem_toArray, List.getElem_cons_succ, List.getElem_cons_zero, List.setIfInBounds_toArray, List.set_cons_zero, List.set_cons_succ]
                first | (refine wpAnyH_take (i := 15) (v := ?_) rfl (by kernel_rfl) (by kernel_rfl) (by kernel_rfl) (fun _ _ _ h => h) (Or.inl ⟨by rfl, ?_⟩) (by assumption) ?_; rotate_left 1; (focus (intro wz hz; (try dsimp only at hz); (try simp only [List.getElem_toArray, List.getElem_cons_succ, List.getElem_cons_zero]); go_simp; (try (rw [if_neg (by (try simp only [ByteArray.size_append]); omega)])); try (with_reducible rfl); done))) | (refine wpAnyH_take (i := 15) (v := undef) rfl (by kernel_rfl) (by kernel_rfl) (by kernel_rfl) (fun _ _ _ h => h) (Or.inr ⟨by rfl, rfl⟩) (by assumption) ?_)
                try simp only [Act.put, List.getElem_toArray, List.getElem_cons_succ, List.getElem_cons_zero, List.setIfInBounds_toArray, List.set_cons_zero, List.set_cons_succ]
                (refine wpAnyH_take (i := 16) (v := ?_) rfl (by kernel_rfl) (by kernel_rfl) (by kernel_rfl) (fun _ _ _ h => h) (Or.inl ⟨by rfl, ?_⟩) (by assumption) ?_; rotate_left 1; (focus (intro wz hz; (try dsimp only at hz); (try simp only [List.getElem_toArray, List.getElem_cons_succ, List.getElem_cons_zero]); go_simp; (try (rw [if_neg (by (try simp only [ByteArray.size_append]); omega)])); try (with_reducible rfl); done)))
                try simp only [Act.put, List.getElem_toArray, List.getElem_cons_succ, List.getElem_cons_zero, List.setIfInBounds_toArray, List.set_cons_zero, List.set_cons_succ]
                (refine wpAnyH_take (i := 17) (v := ?_) rfl (by kernel_rfl) (by kernel_rfl) (by kernel_rfl) (fun _ _ _ h => h) (Or.inl ⟨by rfl, ?_⟩) (by assumption) ?_; rotate_left 1; (focus (intro wz hz; (try dsimp only at hz); (try simp only [List.getElem_toArray, List.getElem_cons_succ, List.getElem_cons_zero]); go_simp; (try (rw [if_neg (by (try simp only [ByteArray.size_append]); omega)])); try (with_reducible rfl); done)))
                try simp only [Act.put, List.getElem_toArray, List.getElem_cons_succ, List.getElem_cons_zero, List.setIfInBounds_toArray, List.set_cons_zero, List.set_cons_succ]
                first | (refine wpAnyH_take (i := 18) (v := ?_) rfl (by kernel_rfl) (by kernel_rfl) (by kernel_rfl) (fun _ _ _ h => h) (Or.inl ⟨by rfl, ?_⟩) (by assumption) ?_; rotate_left 1; (focus (intro wz hz; (try dsimp only at hz); (try simp only [List.getElem_toArray, List.getElem_cons_succ, List.getElem_cons_zero]); go_simp; (try (rw [if_neg (by (try simp only [ByteArray.size_append]); omega)])); try (with_reducible rfl); done))) | (refine wpAnyH_take (i := 18) (v := undef) rfl (by kernel_rfl) (by kernel_rfl) (by kernel_rfl) (fun _ _ _ h => h) (Or.inr ⟨by rfl, rfl⟩) (by assumption) ?_)
                try simp only [Act.put, List.getElem_toArray, List.getElem_cons_succ, List.getElem_cons_zero, List.setIfInBounds_toArray, List.set_cons_zero, List.set_cons_succ]
                first | (refine wpAnyH_take (i := 20) (v := ?_) rfl (by kernel_rfl) (by kernel_rfl) (by kernel_rfl) (fun _ _ _ h => h) (Or.inl ⟨by rfl, ?_⟩) (by assumption) ?_; rotate_left 1; (focus (intro wz hz; (try dsimp only at hz); (try simp only [List.getElem_toArray, List.getElem_cons_succ, List.getElem_cons_zero]); go_simp; (try (rw [if_neg (by (try simp only [ByteArray.size_append]); omega)])); try (with_reducible rfl); done))) | (refine wpAnyH_take (i := 20) (v := undef) rfl (by kernel_rfl) (by kernel_rfl) (by kernel_rfl) (fun _ _ _ h => h) (Or.inr ⟨by rfl, rfl⟩) (by assumption) ?_)
                try simp only [Act.put, List.getElem_toArray, List.getElem_cons_succ, List.getElem_cons_zero, List.setIfInBounds_toArray, List.set_cons_zero, List.set_cons_succ]
                first | (refine wpAnyH_take (i := 19) (v := ?_) rfl (by kernel_rfl) (by kernel_rfl) (by kernel_rfl) (fun _ _ _ h => h) (Or.inl ⟨by rfl, ?_⟩) (by assumption) ?_; rotate_left 1; (focus (intro wz hz; (try dsimp only at hz); (try simp only [List.getElem_toArray, List.getElem_cons_succ, List.getElem_cons_zero]); go_simp; (try (rw [if_neg (by (try simp only [ByteArray.size_append]); omega)])); try (with_reducible rfl); done))) | (refine wpAnyH_take (i := 19) (v := undef) rfl (by kernel_rfl) (by kernel_rfl) (by kernel_rfl) (fun _ _ _ h => h) (Or.inr ⟨by rfl, rfl⟩) (by assumption) ?_)
                try simp only [Act.put, List.getElem_toArray, List.getElem_cons_succ, List.getElem_cons_zero, List.setIfInBounds_toArray, List.set_cons_zero, List.set_cons_succ]
                first | (refine wpAnyH_take (i := 21) (v := ?_) rfl (by kernel_rfl) (by kernel_rfl) (by kernel_rfl) (fun _ _ _ h => h) (Or.inl ⟨by rfl, ?_⟩) (by assumption) ?_; rotate_left 1; (focus (intro wz hz; (try dsimp only at hz); (try simp only [List.getElem_toArray, List.getElem_cons_succ, List.getElem_cons_zero]); go_simp; (try (rw [if_neg (by (try simp only [ByteArray.size_append]); omega)])); try (with_reducible rfl); done))) | (refine wpAnyH_take (i := 21) (v := undef) rfl (by kernel_rfl) (by kernel_rfl) (by kernel_rfl) (fun _ _ _ h => h) (Or.inr ⟨by rfl, rfl⟩) (by assumption) ?_)
                try simp only [Act.put, List.getElem_toArray, List.getElem_cons_succ, List.getElem_cons_zero, List.setIfInBounds_toArray, List.set_cons_zero, List.set_cons_succ]
                (refine wpAnyH_take (i := 22) (v := ?_) rfl (by kernel_rfl) (by kernel_rfl) (by kernel_rfl) (fun _ _ _ h => h) (Or.inl ⟨by rfl, ?_⟩) (by assumption) ?_; rotate_left 1; (focus (intro wz hz; (try dsimp only at hz); (try simp only [List.getElem_toArray, List.getElem_cons_succ, List.getElem_cons_zero]); go_simp; (try (rw [if_neg (by (try simp only [ByteArray.size_append]); omega)])); try (with_reducible rfl); done)))
                try simp only [Act.put, List.getElem_toArray, List.getElem_cons_succ, List.getElem_cons_zero, List.setIfInBounds_toArray, List.set_cons_zero, List.set_cons_succ]
                (refine wpAnyH_take (i := 23) (v := ?_) rfl (by kernel_rfl) (by kernel_rfl) (by kernel_rfl) (fun _ _ _ h => h) (Or.inl ⟨by rfl, ?_⟩) (by assumption) ?_; rotate_left 1; (focus (intro wz hz; (try dsimp only at hz); (try simp only [List.getElem_toArray, List.getElem_cons_succ, List.getElem_cons_zero]); go_simp; (try (rw [if_neg (by (try simp only [ByteArray.size_append]); omega)])); try (with_reducible rfl); done)))
                try simp only [Act.put, List.getElem_toArray, List.getElem_cons_succ, List.getElem_cons_zero, List.setIfInBounds_toArray, List.set_cons_zero, List.set_cons_succ]
                first | (refine wpAnyH_take (i := 24) (v := ?_) rfl (by kernel_rfl) (by kernel_rfl) (by kernel_rfl) (fun _ _ _ h => h) (Or.inl ⟨by rfl, ?_⟩) (by assumption) ?_; rotate_left 1; (focus (intro wz hz; (try dsimp only at hz); (try simp only [List.getElem_toArray, List.getElem_cons_succ, List.getElem_cons_zero]); go_simp; (try (rw [if_neg (by (try simp only [ByteArray.size_append]); omega)])); try (with_reducible rfl); done))) | (refine wpAnyH_take (i := 24) (v := undef) rfl (by kernel_rfl) (by kernel_rfl) (by kernel_rfl) (fun _ _ _ h => h) (Or.inr ⟨by rfl, rfl⟩) (by assumption) ?_)
                try simp only [Act.put, List.getElem_toArray, List.getElem_cons_succ, List.getElem_cons_zero, List.setIfInBounds_toArray, List.set_cons_zero, List.set_cons_succ]
                first | (refine wpAnyH_take (i := 26) (v := ?_) rfl (by kernel_rfl) (by kernel_rfl) (by kernel_rfl) (fun _ _ _ h => h) (Or.inl ⟨by rfl, ?_⟩) (by assumption) ?_; rotate_left 1; (focus (intro wz hz; (try dsimp only at hz); (try simp only [List.getElem_toArray, List.getElem_cons_succ, List.getElem_cons_zero]); go_simp; (try (rw [if_neg (by (try simp only [ByteArray.size_append]); omega)])); try (with_reducible rfl); done))) | (refine wpAnyH_take (i := 26) (v := undef) rfl (by kernel_rfl) (by kernel_rfl) (by kernel_rfl) (fun _ _ _ h => h) (Or.inr ⟨by rfl, rfl⟩) (by assumption) ?_)
                try simp only [Act.put, List.getElem_toArray, List.getElem_cons_succ, List.getElem_cons_zero, List.setIfInBounds_toArray, List.set_cons_zero, List.set_cons_succ]
                first | (refine wpAnyH_take (i := 25) (v := ?_) rfl (by kernel_rfl) (by kernel_rfl) (by kernel_rfl) (fun _ _ _ h => h) (Or.inl ⟨by rfl, ?_⟩) (by assumption) ?_; rotate_left 1; (focus (intro wz hz; (try dsimp only at hz); (try simp only [List.getElem_toArray, List.getElem_cons_succ, List.getElem_cons_zero]); go_simp; (try (rw [if_neg (by (try simp only [ByteArray.size_append]); omega)])); try (with_reducible rfl); done))) | (refine wpAnyH_take (i := 25) (v := undef) rfl (by kernel_rfl) (by kernel_rfl) (by kernel_rfl) (fun _ _ _ h => h) (Or.inr ⟨by rfl, rfl⟩) (by assumption) ?_)
                try simp only [Act.put, List.getElem_toArray, List.getElem_cons_succ, List.getElem_cons_zero, List.setIfInBounds_toArray, List.set_cons_zero, List.set_cons_succ]
                first | (refine wpAnyH_take (i := 27) (v := ?_) rfl (by kernel_rfl) (by kernel_rfl) (by kernel_rfl) (fun _ _ _ h => h) (Or.inl ⟨by rfl, ?_⟩) (by assumption) ?_; rotate_left 1; (focus (intro wz hz; (try dsimp only at hz); (try simp only [List.getElem_toArray, List.getElem_cons_succ, List.getElem_cons_zero]); go_simp; (try (rw [if_neg (by (try simp only [ByteArray.size_append]); omega)])); try (with_reducible rfl); done))) | (refine wpAnyH_take (i := 27) (v := undef) rfl (by kernel_rfl) (by kernel_rfl) (by kernel_rfl) (fun _ _ _ h => h) (Or.inr ⟨by rfl, rfl⟩) (by assumption) ?_)
                try simp only [Act.put, List.getElem_toArray, List.getElem_cons_succ, List.getElem_cons_zero, List.setIfInBounds_toArray, List.set_cons_zero, List.set_cons_succ]
                (refine wpAnyH_take (i := 28) (v := ?_) rfl (by kernel_rfl) (by kernel_rfl) (by kernel_rfl) (fun _ _ _ h => h) (Or.inl ⟨by rfl, ?_⟩) (by assumption) ?_; rotate_left 1; (focus (intro wz hz; (try dsimp only at hz); (try simp only [List.getElem_toArray, List.getElem_cons_succ, List.getElem_cons_zero]); go_simp; (try (rw [if_neg (by (try simp only [ByteArray.size_append]); omega)])); try (with_reducible rfl); done)))
                try simp only [Act.put, List.getElem_toArray, List.getElem_cons_succ, List.getElem_cons_zero, List.setIfInBounds_toArray, List.set_cons_zero, List.set_cons_succ]
                (refine wpAnyH_take (i := 29) (v := ?_) rfl (by kernel_rfl) (by kernel_rfl) (by kernel_rfl) (fun _ _ _ h => h) (Or.inl ⟨by rfl, ?_⟩) (by assumption) ?_; rotate_left 1; (focus (intro wz hz; (try dsimp only at hz); (try simp only [List.getElem_toArray, List.getElem_cons_succ, List.getElem_cons_zero]); go_simp; (try (rw [if_neg (by (try simp only [ByteArray.size_append]); omega)])); try (with_reducible rfl); done)))
                try simp only [Act.put, List.getElem_toArray, List.getElem_cons_succ, List.getElem_cons_zero, List.setIfInBounds_toArray, List.set_cons_zero, List.set_cons_succ]
                first | (refine wpAnyH_take (i := 30) (v := ?_) rfl (by kernel_rfl) (by kernel_rfl) (by kernel_rfl) (fun _ _ _ h => h) (Or.inl ⟨by rfl, ?_⟩) (by assumption) ?_; rotate_left 1; (focus (intro wz hz; (try dsimp only at hz); (try simp only [List.getElem_toArray, List.getElem_cons_succ, List.getElem_cons_zero]); go_simp; (try (rw [if_neg (by (try simp only [ByteArray.size_append]); omega)])); try (with_reducible rfl); done))) | (refine wpAnyH_take (i := 30) (v := undef) rfl (by kernel_rfl) (by kernel_rfl) (by kernel_rfl) (fun _ _ _ h => h) (Or.inr ⟨by rfl, rfl⟩) (by assumption) ?_)
                try simp only [Act.put, List.getElem_toArray, List.getElem_cons_succ, List.getElem_cons_zero, List.setIfInBounds_toArray, List.set_cons_zero, List.set_cons_succ]
                first | (refine wpAnyH_take (i := 32) (v := ?_) rfl (by kernel_rfl) (by kernel_rfl) (by kernel_rfl) (fun _ _ _ h => h) (Or.inl ⟨by rfl, ?_⟩) (by assumption) ?_; rotate_left 1; (focus (intro wz hz; (try dsimp only at hz); (try simp only [List.getElem_toArray, List.getElem_cons_succ, List.getElem_cons_zero]); go_simp; (try (rw [if_neg (by (try simp only [ByteArray.size_append]); omega)])); try (with_reducible rfl); done))) | (refine wpAnyH_take (i := 32) (v := undef) rfl (by kernel_rfl) (by kernel_rfl) (by kernel_rfl) (fun _ _ _ h => h) (Or.inr ⟨by rfl, rfl⟩) (by assumption) ?_)
                try simp only [Act.put, List.getElem_toArray, List.getElem_cons_succ, List.getElem_cons_zero, List.setIfInBounds_toArray, List.set_cons_zero, List.set_cons_succ]
                first | (refine wpAnyH_take (i := 31) (v := ?_) rfl (by kernel_rfl) (by kernel_rfl) (by kernel_rfl) (fun _ _ _ h => h) (Or.inl ⟨by rfl, ?_⟩) (by assumption) ?_; rotate_left 1; (focus (intro wz hz; (try dsimp only at hz); (try simp only [List.getElem_toArray, List.getElem_cons_succ, List.getElem_cons_zero]); go_simp; (try (rw [if_neg (by (try simp only [ByteArray.size_append]); omega)])); try (with_reducible rfl); done))) | (refine wpAnyH_take (i := 31) (v := undef) rfl (by kernel_rfl) (by kernel_rfl) (by kernel_rfl) (fun _ _ _ h => h) (Or.inr ⟨by rfl, rfl⟩) (by assumption) ?_)
                try simp only [Act.put, List.getElem_toArray, List.getElem_cons_succ, List.getElem_cons_zero, List.setIfInBounds_toArray, List.set_cons_zero, List.set_cons_succ]
                first | (refine wpAnyH_take (i := 33) (v := ?_) rfl (by kernel_rfl) (by kernel_rfl) (by kernel_rfl) (fun _ _ _ h => h) (Or.inl ⟨by rfl, ?_⟩) (by assumption) ?_; rotate_left 1; (focus (intro wz hz; (try dsimp only at hz); (try simp only [List.getElem_toArray, List.getElem_cons_succ, List.getElem_cons_zero]); go_simp; (try (rw [if_neg (by (try simp only [ByteArray.size_append]); omega)])); try (with_reducible rfl); done))) | (refine wpAnyH_take (i := 33) (v := undef) rfl (by kernel_rfl) (by kernel_rfl) (by kernel_rfl) (fun _ _ _ h => h) (Or.inr ⟨by rfl, rfl⟩) (by assumption) ?_)
                try simp only [Act.put, List.getElem_toArray, List.getElem_cons_succ, List.getElem_cons_zero, List.setIfInBounds_toArray, List.set_cons_zero, List.set_cons_succ]
                first | (refine wpAnyH_take (i := 34) (v := ?_) rfl (by kernel_rfl) (by kernel_rfl) (by kernel_rfl) (fun _ _ _ h => h) (Or.inl ⟨by rfl, ?_⟩) (by assumption) ?_; rotate_left 1; (focus (intro wz hz; (try dsimp only at hz); (try simp only [List.getElem_toArray, List.getElem_cons_succ, List.getElem_cons_zero]); go_simp; (try (rw [if_neg (by (try simp only [ByteArray.size_append]); omega)])); try (with_reducible rfl); done))) | (refine wpAnyH_take (i := 34) (v := undef) rfl (by kernel_rfl) (by kernel_rfl) (by kernel_rfl) (fun _ _ _ h => h) (Or.inr ⟨by rfl, rfl⟩) (by assumption) ?_)
                try simp only [Act.put, List.getElem_toArray, List.getElem_cons_succ, List.getElem_cons_zero, List.setIfInBounds_toArray, List.set_cons_zero, List.set_cons_succ]
                first | (refine wpAnyH_take (i := 35) (v := ?_) rfl (by kernel_rfl) (by kernel_rfl) (by kernel_rfl) (fun _ _ _ h => h) (Or.inl ⟨by rfl, ?_⟩) (by assumption) ?_; rotate_left 1; (focus (intro wz hz; (try dsimp only at hz); (try simp only [List.getElem_toArray, List.getElem_cons_succ, List.getElem_cons_zero]); go_simp; (try (rw [if_neg (by (try simp only [ByteArray.size_append]); omega)])); try (with_reducible rfl); done))) | (refine wpAnyH_take (i := 35) (v := undef) rfl (by kernel_rfl) (by kernel_rfl) (by kernel_rfl) (fun _ _ _ h => h) (Or.inr ⟨by rfl, rfl⟩) (by assumption) ?_)
                try simp only [Act.put, List.getElem_toArray, List.getElem_cons_succ, List.getElem_cons_zero, List.setIfInBounds_toArray, List.set_cons_zero, List.set_cons_succ]
                first | (refine wpAnyH_take (i := 37) (v := ?_) rfl (by kernel_rfl) (by kernel_rfl) (by kernel_rfl) (fun _ _ _ h => h) (Or.inl ⟨by rfl, ?_⟩) (by assumption) ?_; rotate_left 1; (focus (intro wz hz; (try dsimp only at hz); (try simp only [List.getElem_toArray, List.getElem_cons_succ, List.getElem_cons_zero]); go_simp; (try (rw [if_neg (by (try simp only [ByteArray.size_append]); omega)])); try (with_reducible rfl); done))) | (refine wpAnyH_take (i := 37) (v := undef) rfl (by kernel_rfl) (by kernel_rfl) (by kernel_rfl) (fun _ _ _ h => h) (Or.inr ⟨by rfl, rfl⟩) (by assumption) ?_)
                try simp only [Act.put, List.getElem_toArray, List.getElem_cons_succ, List.getElem_cons_zero, List.setIfInBounds_toArray, List.set_cons_zero, List.set_cons_succ]
                first | (refine wpAnyH_take (i := 36) (v := ?_) rfl (by kernel_rfl) (by kernel_rfl) (by kernel_rfl) (fun _ _ _ h => h) (Or.inl ⟨by rfl, ?_⟩) (by assumption) ?_; rotate_left 1; (focus (intro wz hz; (try dsimp only at hz); (try simp only [List.getElem_toArray, List.getElem_cons_succ, List.getElem_cons_zero]); go_simp; (try (rw [if_neg (by (try simp only [ByteArray.size_append]); omega)])); try (with_reducible rfl); done))) | (refine wpAnyH_take (i := 36) (v := undef) rfl (by kernel_rfl) (by kernel_rfl) (by kernel_rfl) (fun _ _ _ h => h) (Or.inr ⟨by rfl, rfl⟩) (by assumption) ?_)
                try simp only [Act.put, List.getElem_toArray, List.getElem_cons_succ, List.getElem_cons_zero, List.setIfInBounds_toArray, List.set_cons_zero, List.set_cons_succ]
                first | (refine wpAnyH_take (i := 38) (v := ?_) rfl (by kernel_rfl) (by kernel_rfl) (by kernel_rfl) (fun _ _ _ h => h) (Or.inl ⟨by rfl, ?_⟩) (by assumption) ?_; rotate_left 1; (focus (intro wz hz; (try dsimp only at hz); (try simp only [List.getElem_toArray, List.getElem_cons_succ, List.getElem_cons_zero]); go_simp; (try (rw [if_neg (by (try simp only [ByteArray.size_append]); omega)])); try (with_reducible rfl); done))) | (refine wpAnyH_take (i := 38) (v := undef) rfl (by kernel_rfl) (by kernel_rfl) (by kernel_rfl) (fun _ _ _ h => h) (Or.inr ⟨by rfl, rfl⟩) (by assumption) ?_)
                try simp only [Act.put, List.getElem_toArray, List.getElem_cons_succ, List.getElem_cons_zero, List.setIfInBounds_toArray, List.set_cons_zero, List.set_cons_succ]
                first | (refine wpAnyH_take (i := 39) (v := ?_) rfl (by kernel_rfl) (by kernel_rfl) (by kernel_rfl) (fun _ _ _ h => h) (Or.inl ⟨by rfl, ?_⟩) (by assumption) ?_; rotate_left 1; (focus (intro wz hz; (try dsimp only at hz); (try simp only [List.getElem_toArray, List.getElem_cons_succ, List.getElem_cons_zero]); go_simp; (try (rw [if_neg (by (try simp only [ByteArray.size_append]); omega)])); try (with_reducible rfl); done))) | (refine wpAnyH_take (i := 39) (v := undef) rfl (by kernel_rfl) (by kernel_rfl) (by kernel_rfl) (fun _ _ _ h => h) (Or.inr ⟨by rfl, rfl⟩) (by assumption) ?_)
                try simp only [Act.put, List.getElem_toArray, List.getElem_cons_succ, List.getElem_cons_zero, List.setIfInBounds_toArray, List.set_cons_zero, List.set_cons_succ]
                (refine wpAnyH_take (i := 40) (v := ?_) rfl (by kernel_rfl) (by kernel_rfl) (by kernel_rfl) (fun _ _ _ h => h) (Or.inl ⟨by rfl, ?_⟩) (by assumption) ?_; rotate_left 1; (focus (intro wz hz; (try dsimp only at hz); (try simp only [List.getElem_toArray, List.getElem_cons_succ, List.getElem_cons_zero]); go_simp; (try (rw [if_neg (by (try simp only [ByteArray.size_append]); omega)])); try (with_reducible rfl); done)))
                try simp only [Act.put, List.getElem_toArray, List.getElem_cons_succ, List.getElem_cons_zero, List.setIfInBounds_toArray, List.set_cons_zero, List.set_cons_succ]
                refine wpAnyH_done (by kernel_rfl) ?_ _
                clear hHeld
                go_wp2
                go_meet
                have hbd := Below.drew (Below.refl w4.heap.size w4)
                exact ⟨rfl, HB1.out.call hbd, hT5.out.call hbd, v0, v1⟩
            case rest =>
              clear v0 v1 v2 hT5 HB1 e1 e2 e3 e4 e5 hah hle
              obtain ⟨rfl, HB6, T6, v0, v1⟩ := hcut
              have a0 := T6.r.1 s hs256
              have af := T6.r.2
              have hT6 := Lib.hid T6
              have HB7 := Lib.hid HB6
              have hne' : wr.heap.size ≠ bA := fun e => hne e.symm
              clear T6 HB6
              go_wp2
              refine wp_region_held_drew (S := fun W => W.cell? ⟨wr.heap.size, 0, none⟩ = some (.int .i64 s) ∧ W.cell? ⟨wr.heap.size, 1, none⟩ = some (.int .i64 t)) (by kernel_rfl) (⟨v0, v1⟩) (fun hHeld => ?_)
              (refine wpAnyH_take (i := 0) (v := ?_) rfl (by kernel_rfl) (by kernel_rfl) (by kernel_rfl) (fun _ _ _ h => h) (Or.inl ⟨by rfl, ?_⟩) (by assumption) ?_; rotate_left 1; (focus (intro wz hz; (try dsimp only at hz); (try simp only [List.getElem_toArray, List.getElem_cons_succ, List.getElem_cons_zero]); go_simp; (try (rw [if_neg (by (try simp only [ByteArray.size_append]); omega)])); try (with_reducible rfl); done)))
              try simp only [Act.put, List.getElem_toArray, List.getElem_cons_succ, List.getElem_cons_zero, List.setIfInBounds_toArray, List.set_cons_zero, List.set_cons_succ]
              (refine wpAnyH_take (i := 2) (v := ?_) rfl (by kernel_rfl) (by kernel_rfl) (by kernel_rfl) (fun _ _ _ h => h) (Or.inl ⟨by rfl, ?_⟩) (by assumption) ?_; rotate_left 1; (focus (intro wz hz; (try dsimp only at hz); (try simp only [List.getElem_toArray, List.getElem_cons_succ, List.getElem_cons_zero]); go_simp; (try (rw [if_neg (by (try simp only [ByteArray.size_append]); omega)])); try (with_reducible rfl); done)))
              try simp only [Act.put, List.getElem_toArray, List.getElem_cons_succ, List.getElem_cons_zero, List.setIfInBounds_toArray, List.set_cons_zero, List.set_cons_succ]
              (refine wpAnyH_take (i := 4) (v := ?_) rfl (by kernel_rfl) (by kernel_rfl) (by kernel_rfl) (fun _ _ _ h => h) (Or.inl ⟨by rfl, ?_⟩) (by assumption) ?_; rotate_left 1; (focus (intro wz hz; (try dsimp only at hz); (try simp only [List.getElem_toArray, List.getElem_cons_succ, List.getElem_cons_zero]); go_simp; (try (rw [if_neg (by (try simp only [ByteArray.size_append]); omega)])); try (with_reducible rfl); done)))
              try simp only [Act.put, List.getElem_toArray, List.getElem_cons_succ, List.getElem_cons_zero, List.setIfInBounds_toArray, List.set_cons_zero, List.set_cons_succ]
              (refine wpAnyH_take (i := 1) (v := ?_) rfl (by kernel_rfl) (by kernel_rfl) (by kernel_rfl) (fun _ _ _ h => h) (Or.inl ⟨by rfl, ?_⟩) (by assumption) ?_; rotate_left 1; (focus (intro wz hz; (try dsimp only at hz); (try simp only [List.getElem_toArray, List.getElem_cons_succ, List.getElem_cons_zero]); go_simp; (try (rw [if_neg (by (try simp only [ByteArray.size_append]); omega)])); try (with_reducible rfl); done)))
              try simp only [Act.put, List.getElem_toArray, List.getElem_cons_succ, List.getElem_cons_zero, List.setIfInBounds_toArray, List.set_cons_zero, List.set_cons_succ]
              (refine wpAnyH_take (i := 3) (v := ?_) rfl (by kernel_rfl) (by kernel_rfl) (by kernel_rfl) (fun _ _ _ h => h) (Or.inl ⟨by rfl, ?_⟩) (by assumption) ?_; rotate_left 1; (focus (intro wz hz; (try dsimp only at hz); (try simp only [List.getElem_toArray, List.getElem_cons_succ, List.getElem_cons_zero]); go_simp; (try (rw [if_neg (by (try simp only [ByteArray.size_append]); omega)])); try (with_reducible rfl); done)))
              try simp only [Act.put, List.getElem_toArray, List.getElem_cons_succ, List.getElem_cons_zero, List.setIfInBounds_toArray, List.set_cons_zero, List.set_cons_succ]
              (refine wpAnyH_take (i := 5) (v := ?_) rfl (by kernel_rfl) (by kernel_rfl) (by kernel_rfl) (fun _ _ _ h => h) (Or.inl ⟨by rfl, ?_⟩) (by assumption) ?_; rotate_left 1; (focus (intro wz hz; (try dsimp only at hz); (try simp only [List.getElem_toArray, List.getElem_cons_succ, List.getElem_cons_zero]); go_simp; (try (rw [if_neg (by (try simp only [ByteArray.size_append]); omega)])); try (with_reducible rfl); done)))
              try simp only [Act.put, List.getElem_toArray, List.getElem_cons_succ, List.getElem_cons_zero, List.setIfInBounds_toArray, List.set_cons_zero, List.set_cons_succ]
              (refine wpAnyH_take (i := 6) (v := ?_) rfl (by kernel_rfl) (by kernel_rfl) (by kernel_rfl) (fun _ _ _ h => h) (Or.inl ⟨by rfl, ?_⟩) (by assumption) ?_; rotate_left 1; (focus (intro wz hz; (try dsimp only at hz); (try simp only [List.getElem_toArray, List.getElem_cons_succ, List.getElem_cons_zero]); go_simp; (try (rw [if_neg (by (try simp only [ByteArray.size_append]); omega)])); try (with_reducible rfl); done)))
              try simp only [Act.put, List.getElem_toArray, List.getElem_cons_succ, List.getElem_cons_zero, List.setIfInBounds_toArray, List.set_cons_zero, List.set_cons_succ]
              (refine wpAnyH_ready (rs := [7]) (by kernel_rfl) (by simp) ?_; refine AllReadyH.cons rfl (fun K hK => ?_) AllReadyH.nil; (try simp only [List.getElem_toArray, List.getElem_cons_succ, List.getElem_cons_zero]); skip; go_simp; refine hK.out _ _ (⟨by simp [go_sem, hne, hne', v0], by simp [go_sem, hne, hne', v1]⟩) (fun hHeld => ?_); clear hK K)
              try simp only [Act.put, List.getElem_toArray, List.getElem_cons_succ, List.getElem_cons_zero, List.setIfInBounds_toArray, List.set_cons_zero, List.set_cons_succ]
              (refine wpAnyH_take (i := 8) (v := ?_) rfl (by kernel_rfl) (by kernel_rfl) (by kernel_rfl) (fun _ _ _ h => h) (Or.inl ⟨by rfl, ?_⟩) (by assumption) ?_; rotate_left 1; (focus (intro wz hz; (try dsimp only at hz); (try simp only [List.getElem_toArray, List.getElem_cons_succ, List.getElem_cons_zero]); go_simp; (try (rw [if_neg (by (try simp only [ByteArray.size_append]); omega)])); try (with_reducible rfl); done)))
              try simp only [Act.put, List.getElem_toArray, List.getElem_cons_succ, List.getElem_cons_zero, List.setIfInBounds_toArray, List.set_cons_zero, List.set_cons_succ]
              (refine wpAnyH_take (i := 9) (v := ?_) rfl (by kernel_rfl) (by kernel_rfl) (by kernel_rfl) (fun _ _ _ h => h) (Or.inl ⟨by rfl, ?_⟩) (by assumption) ?_; rotate_left 1; (focus (intro wz hz; (try dsimp only at hz); (try simp only [List.getElem_toArray, List.getElem_cons_succ, List.getElem_cons_zero]); go_simp; (try (rw [if_neg (by (try simp only [ByteArray.size_append]); omega)])); try (with_reducible rfl); done)))
              try simp only [Act.put, List.getElem_toArray, List.getElem_cons_succ, List.getElem_cons_zero, List.setIfInBounds_toArray, List.set_cons_zero, List.set_cons_succ]
              refine wpAnyH_done (by kernel_rfl) ?_ _
              clear hHeld v0 v1 a0 af
              go_wp2
              go_roundw
              case rel =>
                refine ⟨j + 1, t, s, rfl, rfl, by go_num, by omega, Lib.hid (.inr ⟨hjl, Nat.succ_pos _, HPR.out.2.symm, HPR.out.1.symm⟩), Lib.hid ?_, Lib.hid ⟨_, (hT6.out.put s hs256 0).call (Below.drew (Below.refl _ _)), HNX.out⟩⟩
                exact ⟨Below.drew (HB7.out.1.setCell (Nat.zero_le _) _), fun q hq hne2 => (Below.heap_setCell wc ⟨bA, s, none⟩ _ q (by show q ≠ bA; exact hne2)).trans (HB7.out.2 q hq hne2)⟩
              case measure => simp [intOf]; omega
          · obtain rfl : j = ot.length := by omega
            obtain ⟨f, T4, F4⟩ := hst.out
            rw [List.drop_length, List.nil_append] at F4
            have hjl' : ¬ (ot.length : Int) < ot.length := by omega
            have hG := Lib.hid T4.a.good.1
            have hT4 := Lib.hid T4
            have hF4 := Lib.hid F4
            clear T4 F4 hst hpr hbut HE HTO HA HOL HG1 hT2
            go_wp2
            go_loopw [16, 17] (fun lf kv ws => ∃ q : Nat, lf = .int .i64 (dueN f q : Nat) ∧ kv = .int .i64 q ∧ q ≤ 256 ∧ ws = wr) (fun _ kv _ => 256 - (intOf kv).toNat)
            case atStart => exact ⟨0, rfl, rfl, by decide, rfl⟩
            case round =>
              obtain ⟨q, rfl, rfl, hq, rfl⟩ := hrel
              by_cases hq2 : q < 256
              · have hq2' : (q : Int) < 256 := by omega
                have a0 := hT4.out.r.1 q hq2
                have hbnd := hF4.out.b q (by omega) (by omega)
                have hdn := dueN_le f q
                have HDN := Lib.hid (show dueN f (q + 1) = dueN f q + if 0 < f q then 1 else 0 from rfl)
                have hpos : 0 < f q → (m : Int) < f q := fun hp => by
                  rcases hbnd with h | h
                  · omega
                  · exact (hG.out.r _ h).2.1
                generalize hfq : f (q : Int) = y at a0 HDN hpos
                clear hbnd hfq
                by_cases hy : 0 < y
                · have hy2 : ¬ y ≤ m := by have := hpos hy; omega
                  have hwd : IntKind.i64.wrap ((dueN f q : Int) + 1) = ((dueN f q + 1 : Nat) : Int) := by rw [IntWalk.i64_in _ (by omega)]; omega
                  have HDN2 := Lib.hid (show dueN f (q + 1) = dueN f q + 1 by rw [HDN.out, if_pos hy])
                  clear hpos HDN
                  go_wp2
                  go_roundw
                  case rel => exact ⟨q + 1, by rw [HDN2.out]; go_num, by go_num, by omega, by first | rfl | trivial⟩
                  case measure => simp [intOf]; omega
                · have HDN2 := Lib.hid (show dueN f (q + 1) = dueN f q by rw [HDN.out, if_neg hy, Nat.add_zero])
                  have hy2 : y ≤ 0 := by omega
                  clear hpos HDN
                  go_wp2
                  go_roundw
                  case rel => exact ⟨q + 1, by rw [HDN2.out], by go_num, by omega, by first | rfl | trivial⟩
                  case measure => simp [intOf]; omega
              · obtain rfl : q = 256 := by omega
                have hn256 := hF4.out.n
                rw [hn256]
                have hnn : ((l2.length : Int) != (l2.length : Int)) = false := by simp
                go_wp2_with fail
                refine (wlen_any C2 g N m l2 _ hT4.out.a).mono ?_; rintro e w7 ⟨rfl, hb7⟩
                have hT7 := Lib.hid (hT4.out.call hb7)
                clear hT4 hb7
                go_wp2
                go_roundw
                case rel => exact ⟨k + 1, m, rfl, by go_num, by omega, hm2.out, Lib.hid ⟨C2, l2, f, hT7.out, hF4.out, HW.out⟩⟩
                case measure => simp [intOf]; omega
    · obtain rfl : k = l.length := by omega
      have hlt' : ¬ (l.length : Int) < l.length := by omega
      obtain ⟨C, l0, f, T0, F0, -⟩ := HT.out
      have hB := T0.B
      clear HT T0 F0
      go_wp2_with fail
      refine (awake_any _).mono ?_; rintro _ w9 ⟨rfl, hb9⟩
      go_wp2
      go_ret
      exact ⟨rfl, below_call hb9 hB.size hB⟩

set_option maxRecDepth 100000 in
theorem wonce_lifted (os : Os) (started : os.Started) (H : Type) (enc : TypeId × Value → H) :
    ReturnsInHanded {} Try.checked os 5 .any (Rows.wheelOnceSpec.pre6 enc Try.prog Try.f5 Rows.wheelOnceRow.domain false) (Rows.wheelOnceSpec.post enc Try.prog Try.f5 false true false false) := by
  refine returnsInHanded_of_change (C := Try.checked) own started (by kernel_rfl) Try.func5
    (ChangeSpec.witness6 (enc := enc) (C := Try.checked) false ⟨#[], #[.int .u8 0, .slice none 0 0], []⟩ 8 (by kernel_rfl) (by kernel_rfl) (by kernel_rfl) (by kernel_rfl)) ?_
  intro W base args ds gs before hval0 hW hcnd _
  have hval : ∀ (j : Nat) t v, Try.f5.params[j]? = some t → args[j]? = some v → Value.okWide Try.prog W .any base t v := hval0
  have hW' := hW
  obtain ⟨p, q, hA0, hV, rfl, hfz, hnd⟩ := hW
  have hA : DataW.TrodAll enc Try.prog W 0 (fun _ => true) true Try.f5.params.toList args.toList ds p := hA0
  rw [Try.params5] at hA hval
  obtain ⟨v0, vs0, d0, ds0, p0, q0, hargs, rfl, rfl, h0, r0⟩ := trodAll_cons hA
  obtain ⟨v1, vs1, d1, ds1, p1, q1, rfl, rfl, rfl, h1, r1⟩ := trodAll_cons r0
  obtain ⟨rfl, rfl, rfl⟩ := trodAll_nil r1
  obtain rfl : args = #[v0, v1] := by cases args; simp_all
  obtain ⟨rfl, rfl⟩ := trodVars_none hV
  obtain ⟨a, rfl, rfl, rfl, hba⟩ := open_int Try.underlying5 (hval 0 5 v0 rfl rfl) h0
  obtain ⟨l, hl, hok⟩ := open_plans (hval 1 57 v1 rfl rfl) h1
  refine (wonce_walk a v1 l W (bounds_u8 hba) hl hok).mono fun e W' ⟨he, hb⟩ => ?_
  subst he
  exact ⟨_, rfl, law_post rfl rfl Try.underlying4 (by kernel_rfl) rfl hW' hb⟩
theorem wonce_holds : Rows.WheelOnceSaid :=
  OpenClaim.holds_of_wide 5 Try.f5 rfl rfl rfl rfl rfl rfl rfl ⟨rfl, rfl, rfl, rfl, rfl⟩ rfl rfl rfl rfl rfl (by kernel_rfl) Try.func5 (by kernel_rfl)
    (of_decide_eq_true (by kernel_rfl)) (by unfold Func.isWrapper; first | (rw [if_pos (by decide +kernel)]; kernel_rfl) | (rw [if_neg (by decide +kernel)]; exact ⟨rfl, rfl⟩))
    (fun os started H enc _ => wonce_lifted os started H enc)
end Go.Proofs.Ytcanaadcjipfjaa
