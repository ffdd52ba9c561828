/- WheelSlots: however many slots there are, the same is due, and told: the statement holds for every input. No condition. -/
import Derived.Test.YtcanaadcjipfjaaLawKit
import Derived.Test.YtcanaadcjipfjaaLawOpen15
import Derived.Test.YtcanaadcjipfjaaW15W
namespace Go.Proofs.Ytcanaadcjipfjaa
open Go.RowKit Go.ChangeShapes Go.WideShapes Go.ChangeAt
set_option linter.unusedVariables false
set_option linter.unusedSimpArgs false

/-- two wheels, apart, with the same due -/
structure Two15 (w0 w : World) (C D : Nat → Prop) (g h N M : Nat) (now : Int) (l : List Du) (n2 : Int) (l2 : List Du) : Prop where
  a : LieW w C g N now l
  b : LieW w D h M n2 l2
  d : ∀ q, C q → ¬ D q
  c : ∀ q, C q → w0.heap.size ≤ q
  e : ∀ q, D q → w0.heap.size ≤ q
  B : Below w0.heap.size w0 w
theorem Two15.call {w0 w w' : World} {C D : Nat → Prop} {g h N M : Nat} {now : Int} {l : List Du} {n2 : Int} {l2 : List Du} (T : Two15 w0 w C D g h N M now l n2 l2) (hb : Below w.heap.size w w') : Two15 w0 w' C D g h N M now l n2 l2 :=
  ⟨T.a.keep (fun q hq => hb.block q (T.a.lt q hq)), T.b.keep (fun q hq => hb.block q (T.b.lt q hq)), T.d, T.c, T.e, T.B.trans (hb.mono T.B.size)⟩
theorem Two15.left {w0 w w' : World} {C D : Nat → Prop} {g h N M : Nat} {now : Int} {l : List Du} {n2 : Int} {l2 : List Du} {now' : Int} {l' : List Du} (T : Two15 w0 w C D g h N M now l n2 l2) (H : Did15 w w' C g N now' l') : ∃ C', Two15 w0 w' C' D g h N M now' l' n2 l2 := by
  obtain ⟨C', H, hC, hb⟩ := H
  refine ⟨C', H, T.b.keep (fun q hq => hb.2 q (T.b.lt q hq) (fun hc => T.d q hc hq)), fun q hq hd => ?_, fun q hq => ?_, T.e, T.B.trans (hb.to T.c T.B.size)⟩
  · rcases hC q hq with k | k
    · exact T.d q k hd
    · have := T.b.lt q hd; omega
  · rcases hC q hq with k | k
    · exact T.c q k
    · exact Nat.le_trans T.B.size k
theorem Two15.right {w0 w w' : World} {C D : Nat → Prop} {g h N M : Nat} {now : Int} {l : List Du} {n2 : Int} {l2 : List Du} {now' : Int} {l' : List Du} (T : Two15 w0 w C D g h N M now l n2 l2) (H : Did15 w w' D h M now' l') : ∃ D', Two15 w0 w' C D' g h N M now l now' l' := by
  obtain ⟨D', H, hD, hb⟩ := H
  refine ⟨D', T.a.keep (fun q hq => hb.2 q (T.a.lt q hq) (T.d q hq)), H, fun q hq hd => ?_, T.c, fun q hq => ?_, T.B.trans (hb.to T.e T.B.size)⟩
  · rcases hD q hd with k | k
    · exact T.d q hq k
    · have := T.a.lt q hq; omega
  · rcases hD q hq with k | k
    · exact T.e q k
    · exact Nat.le_trans T.B.size k
theorem gone_next (now : Int) (gap : Int) (h : 0 ≤ gap) (h2 : now + gap ≤ 1099511627776) : goN now (now + gap) = now + gap := by
  unfold goN gone
  by_cases hg : now < now + gap
  · rw [if_pos (decide_eq_true ⟨hg, h2⟩)]
  · rw [if_neg (by simp; omega)]
    omega
theorem setW_len (l : List Du) (now id a : Int) : (setW l now id a).length ≤ l.length + 1 := by
  unfold setW
  split
  · rw [ins_len]
    have := List.length_filter_le (fun e : Du => decide (e.1 ≠ id)) l
    unfold delW
    omega
  · omega
theorem go_len (l : List Du) (now t2 : Int) : (goL l now t2).length ≤ l.length ∧ (goW l now t2).length ≤ l.length := by
  have := congrArg List.length (go_app l now t2)
  rw [List.length_append] at this
  omega
theorem setE_ok {now id a : Int} (h : 0 ≤ id ∧ id ≤ 255) (h1 : now < a) (h2 : a ≤ 1099511627776) : setE now id a = 0 := if_neg (by omega)
set_option maxRecDepth 100000 in
set_option maxHeartbeats 16000000 in
theorem wslots_walk (a b : Int) (v : Value) (l : List Pl) (w : World) (ha : 0 ≤ a ∧ a ≤ 255) (hb : 0 ≤ b ∧ b ≤ 255) (hv : IsR 4 plC w v l) (hok : ∀ x ∈ l, PlOk x) :
    Calls Try.prog 6 #[.int .u8 a, .int .u8 b, v] w fun e w' => e = .returned (.bool true) ∧ Below w.heap.size w w' := by
  obtain ⟨p, cap, rfl, -, hp⟩ := hv
  have HP := Lib.hid hp
  have HK := Lib.hid hok
  clear hp hok
  by_cases hl : 40 < l.length
  · have hl' : (40 : Int) < l.length := by omega
    clear hl
    go_enter Try.func6, Try.ntmps6
    go_wp2_with fail
    refine (awake_any _).mono ?_; rintro e w1 ⟨rfl, hb1⟩
    go_wp2
    go_ret
    exact ⟨rfl, hb1⟩
  have hl' : ¬ (40 : Int) < l.length := by omega
  have HLL := Lib.hid (show l.length ≤ 40 by omega)
  clear hl
  obtain ⟨N, hN⟩ : ∃ N : Nat, (N : Int) = 1 + a % 32 := ⟨(1 + a % 32).toNat, by omega⟩
  obtain ⟨M, hM⟩ : ∃ M : Nat, (M : Int) = 1 + b % 32 := ⟨(1 + b % 32).toNat, by omega⟩
  have ea : Int.tmod a 32 = (N : Int) - 1 := by rw [Int.tmod_eq_emod_of_nonneg ha.1]; omega
  have eb : Int.tmod b 32 = (M : Int) - 1 := by rw [Int.tmod_eq_emod_of_nonneg hb.1]; omega
  have ea2 : a % 32 = (N : Int) - 1 := by omega
  have eb2 : b % 32 = (M : Int) - 1 := by omega
  have hNb : 1 ≤ N ∧ N ≤ 32 := by omega
  have hMb : 1 ≤ M ∧ M ≤ 32 := by omega
  have wa : IntKind.u8.wrap ((N : Int) - 1) = (N : Int) - 1 := IntWalk.u8_in _ (by omega)
  have wb : IntKind.u8.wrap ((M : Int) - 1) = (M : Int) - 1 := IntWalk.u8_in _ (by omega)
  have wa2 : IntKind.i64.wrap ((N : Int) - 1) = (N : Int) - 1 := IntWalk.i64_in _ (by omega)
  have wb2 : IntKind.i64.wrap ((M : Int) - 1) = (M : Int) - 1 := IntWalk.i64_in _ (by omega)
  have wa3 : IntKind.i64.wrap (1 + ((N : Int) - 1)) = (N : Int) := by rw [IntWalk.i64_in _ (by omega)]; omega
  have wb3 : IntKind.i64.wrap (1 + ((M : Int) - 1)) = (M : Int) := by rw [IntWalk.i64_in _ (by omega)]; omega
  have HNM := Lib.hid (And.intro hNb hMb)
  clear hN hM ha hb hNb hMb
  go_enter Try.func6, Try.ntmps6
  go_wp2_with fail
  refine (wnew_yes N _ HNM.out.1).mono ?_; rintro e w1 ⟨g, C, rfl, H1, hC, hb1⟩
  have L1 := H1.lt
  go_wp2_with fail
  refine (wnew_yes M _ HNM.out.2).mono ?_; rintro e w2 ⟨h, D, rfl, H2, hD, hb2⟩
  have HT : Hid (∃ C D l0, Two15 w w2 C D g h N M 0 l0 0 l0 ∧ l0.length ≤ 0) := Lib.hid ⟨C, D, [], ⟨H1.keep (fun q hq => hb2.block q (L1 q hq)), H2, fun q hq hd => by have := L1 q hq; have := hD q hd; omega, hC, fun q hq => Nat.le_trans hb1.size (hD q hq), below_call hb2 hb1.size hb1⟩, Nat.le_refl _⟩
  clear H1 hC hb1 H2 hD hb2 L1 ea eb ea2 eb2 wa wb wa2 wb2 wa3 wb3
  go_wp2
  go_loopw [11, 12] (fun nv i wr => ∃ k n : Nat, nv = .int .i64 n ∧ i = .int .i64 k ∧ k ≤ l.length ∧ n ≤ 255 * k ∧ Hid (∃ C D l0, Two15 w wr C D g h N M n l0 n l0 ∧ l0.length ≤ k)) (fun _ i _ => l.length - (intOf i).toNat)
  case atStart => exact ⟨0, 0, rfl, rfl, Nat.zero_le _, Nat.le_refl _, HT⟩
  case round =>
    clear HT
    obtain ⟨k, n, rfl, rfl, hk, hn, HT⟩ := hrel
    have hn2 : n ≤ 255 * 40 := by have := HLL.out; omega
    by_cases hlt : k < l.length
    · have hlt' : (k : Int) < l.length := by omega
      obtain ⟨bb, off, rfl, cl⟩ := HP.out k hlt
      have hok := HK.out l[k] (List.getElem_mem hlt)
      obtain ⟨i0, hi0⟩ : ∃ x, l[k].1 = x := ⟨_, rfl⟩
      obtain ⟨i1, hi1⟩ : ∃ x, l[k].2.1 = x := ⟨_, rfl⟩
      obtain ⟨i2, hi2⟩ : ∃ x, l[k].2.2.1 = x := ⟨_, rfl⟩
      have c0 := cl 0 _ rfl
      have c1 := cl 1 _ rfl
      have c2 := cl 2 _ rfl
      unfold PlOk at hok
      rw [hi0] at c0 hok
      rw [hi1] at c1 hok
      rw [hi2] at c2 hok
      simp only [Nat.add_zero] at c0
      have HCL : Hid (∀ W, Below w.heap.size w W → W.cell? ⟨bb, off + k * 4, none⟩ = some (.int .u8 i0) ∧ W.cell? ⟨bb, off + k * 4 + 1, none⟩ = some (.int .u8 i1) ∧ W.cell? ⟨bb, off + k * 4 + 2, none⟩ = some (.int .u8 i2)) := Lib.hid (fun W hB => ⟨(hB.cell (p := ⟨bb, off + k * 4, none⟩) (World.block_lt_of_cell? _ _ c0)).trans c0, (hB.cell (p := ⟨bb, off + k * 4 + 1, none⟩) (World.block_lt_of_cell? _ _ c1)).trans c1, (hB.cell (p := ⟨bb, off + k * 4 + 2, none⟩) (World.block_lt_of_cell? _ _ c2)).trans c2⟩)
      obtain ⟨C, D, l0, T0, hll⟩ := HT.out
      obtain ⟨d0, d1, d2⟩ := HCL.out _ T0.B
      have HOK := Lib.hid hok
      have x1 : IntKind.i64.wrap ((n : Int) + 1) = (n : Int) + 1 := IntWalk.i64_in _ (by omega)
      have x2 : IntKind.i64.wrap i1 = i1 := IntWalk.i64_in _ (by omega)
      have x3 : IntKind.i64.wrap ((n : Int) + 1 + i1) = (n : Int) + 1 + i1 := IntWalk.i64_in _ (by omega)
      have x4 : IntKind.i64.wrap i0 = i0 := IntWalk.i64_in _ (by omega)
      have x5 : IntKind.i64.wrap i2 = i2 := IntWalk.i64_in _ (by omega)
      have x6 : IntKind.i64.wrap ((n : Int) + i2) = (n : Int) + i2 := IntWalk.i64_in _ (by omega)
      have hse : setE n i0 ((n : Int) + 1 + i1) = 0 := setE_ok hok.1 (by omega) (by omega)
      have hgn : goN n ((n : Int) + i2) = (n : Int) + i2 := gone_next n i2 (by omega) (by omega)
      have q1 : I64 i0 := by unfold I64; omega
      have q2 : I64 ((n : Int) + 1 + i1) := by unfold I64; omega
      have q3 : I64 ((n : Int) + i2) := by unfold I64; omega
      have HQ := Lib.hid (And.intro q1 (And.intro q2 q3))
      have HG := Lib.hid hgn
      have hT0 := Lib.hid T0
      clear c0 c1 c2 cl hi0 hi1 hi2 hok q1 q2 q3 HT T0 hgn
      go_wp2_with fail
      refine (wset_any C g N n l0 _ hT0.out.a i0 _ HQ.out.1 HQ.out.2.1).mono ?_; rintro e w3 ⟨rfl, hd3⟩
      rw [hse]
      obtain ⟨C3, T3⟩ := hT0.out.left hd3
      have hT3 := Lib.hid T3
      clear hT0 hd3 T3 d0 d1 d2
      obtain ⟨d0, d1, d2⟩ := HCL.out _ hT3.out.B
      go_wp2_with fail
      refine (wset_any D h M n l0 _ hT3.out.b i0 _ HQ.out.1 HQ.out.2.1).mono ?_; rintro e w4 ⟨rfl, hd4⟩
      rw [hse]
      obtain ⟨D4, T4⟩ := hT3.out.right hd4
      have hT4 := Lib.hid T4
      clear hT3 hd4 T4 d0 d1 d2
      obtain ⟨d0, d1, d2⟩ := HCL.out _ hT4.out.B
      have HL1 := Lib.hid (show (setW l0 n i0 ((n : Int) + 1 + i1)).length ≤ k + 1 from Nat.le_trans (setW_len _ _ _ _) (by omega))
      clear hll
      generalize setW l0 n i0 ((n : Int) + 1 + i1) = l1 at hT4 HL1
      go_wp2_with fail
      refine (wgo_any C3 g N n l1 _ hT4.out.a ((n : Int) + i2) HQ.out.2.2).mono ?_; rintro e w5 ⟨o5, rfl, R5, hd5⟩
      have F5 := far_new R5 hT4.out.b.lt
      obtain ⟨C5, T5⟩ := hT4.out.left hd5
      rw [HG.out] at T5
      have hT5 := Lib.hid T5
      have HR5 := Lib.hid (And.intro R5 F5)
      clear hT4 hd5 T5 R5 F5 d0 d1 d2
      go_wp2_with fail
      refine (wgo_any D4 h M n l1 _ hT5.out.b ((n : Int) + i2) HQ.out.2.2).mono ?_; rintro e w6 ⟨o6, rfl, R6, hd6⟩
      have R5' : OwnR 62 2 duC w6 w4.heap.size o5 (goL l1 n ((n : Int) + i2)) := by
        obtain ⟨D', _, _, hbb⟩ := hd6
        exact row_but HR5.out.1 HR5.out.2 hbb
      obtain ⟨D6, T6⟩ := hT5.out.right hd6
      rw [HG.out] at T6
      have hT6 := Lib.hid T6
      have HL2 := Lib.hid (show (goW l1 n ((n : Int) + i2)).length ≤ k + 1 from Nat.le_trans (go_len _ _ _).2 HL1.out)
      have HL3 := Lib.hid (show (goL l1 n ((n : Int) + i2)).length ≤ k + 1 from Nat.le_trans (go_len _ _ _).1 HL1.out)
      generalize goW l1 n ((n : Int) + i2) = l2 at hT6 HL2
      generalize goL l1 n ((n : Int) + i2) = ot at R5' R6 HL3
      have hot : ot.length ≤ 41 := by have := HL3.out; omega
      clear HL1 HL3
      obtain ⟨p5, c5, f5⟩ := R5'.form
      obtain ⟨p6, c6, f6⟩ := R6.form
      subst f5
      subst f6
      have HR5 := Lib.hid (R5'.reads duC_len)
      have HR6 := Lib.hid (R6.reads duC_len)
      clear hT5 hd6 T6 R5' R6
      obtain ⟨m, hm⟩ : ∃ m : Nat, (m : Int) = (n : Int) + i2 := ⟨((n : Int) + i2).toNat, by have := HOK.out; omega⟩
      rw [← hm] at hT6 x6 ⊢
      have hm2 := Lib.hid (show m ≤ 255 * (k + 1) by have := HOK.out; omega)
      clear hm HG HQ hse x1 x2 x3 x4 x5
      go_wp2_with fail
      refine (wlen_any C5 g N m l2 _ hT6.out.a).mono ?_; rintro e w7 ⟨rfl, hb7⟩
      have hT7 := Lib.hid (hT6.out.call hb7)
      have HR5 := Lib.hid (HR5.out.call hb7)
      have HR6 := Lib.hid (HR6.out.call hb7)
      clear hT6 hb7
      go_wp2_with fail
      refine (wlen_any D6 h M m l2 _ hT7.out.b).mono ?_; rintro e w8 ⟨rfl, hb8⟩
      have hT8 := Lib.hid (hT7.out.call hb8)
      have HR5 := Lib.hid (HR5.out.call hb8)
      have HR6 := Lib.hid (HR6.out.call hb8)
      have hnn : ((l2.length : Int) != (l2.length : Int)) = false := by simp
      clear hT7 hb8
      go_wp2
      have HE := Lib.hid (show ∀ j (hj : j < ot.length), ∃ b1 o1 b2 o2, p5 = some ⟨b1, o1, none⟩ ∧ p6 = some ⟨b2, o2, none⟩ ∧ Du2 w8 b1 (o1 + j * 2) ot[j] ∧ Du2 w8 b2 (o2 + j * 2) ot[j] from fun j hj => by
        obtain ⟨_, _, e5, _, g5⟩ := HR5.out
        obtain ⟨_, _, e6, _, g6⟩ := HR6.out
        cases e5
        cases e6
        obtain ⟨b1, o1, h1, k1⟩ := g5 j hj
        obtain ⟨b2, o2, h2, k2⟩ := g6 j hj
        exact ⟨b1, o1, b2, o2, h1, h2, du2_of k1, du2_of k2⟩)
      go_loopw [16] (fun i ws => ∃ j : Nat, i = .int .i64 j ∧ j ≤ ot.length ∧ Hid (Below w8.heap.size w8 ws)) (fun i _ => ot.length - (intOf i).toNat)
      case atStart => exact ⟨0, rfl, Nat.zero_le _, Lib.hid (Below.refl _ _)⟩
      case round =>
        obtain ⟨j, rfl, hj, HB⟩ := hrel
        by_cases hjl : j < ot.length
        · have hjl' : (j : Int) < ot.length := by omega
          obtain ⟨b1, o1, b2, o2, rfl, rfl, k1, k2⟩ := HE.out j hjl
          obtain ⟨y0, y1⟩ := k1.far HB.out
          obtain ⟨z0, z1⟩ := k2.far HB.out
          have nq := fun W => neq_wdu ot[j] ot[j] W
          simp only [decide_true, Bool.not_true] at nq
          generalize ot[j].1 = s at y0 z0 nq
          generalize ot[j].2 = t at y1 z1 nq
          clear k1 k2
          go_wp2
          refine wp_region_held_drew (S := fun W => (W.cell? ⟨b1, o1 + j * 2, none⟩ = some (.int .i64 s) ∧ W.cell? ⟨b1, o1 + j * 2 + 1, none⟩ = some (.int .i64 t)) ∧ (W.cell? ⟨b2, o2 + j * 2, none⟩ = some (.int .i64 s) ∧ W.cell? ⟨b2, o2 + j * 2 + 1, none⟩ = some (.int .i64 t))) (by kernel_rfl) (⟨⟨y0, y1⟩, z0, z1⟩) (fun hHeld => ?_)
          (refine wpAnyH_take (i := 0) (v := ?_) rfl (by kernel_rfl) (by kernel_rfl) (by kernel_rfl) (fun _ _ _ h => h) (Or.inl ⟨by rfl, ?_⟩) (by assumption) ?_; rotate_left 1; (focus (intro wz hz; (try dsimp only at hz); (try simp only [List.getElem_toArray, List.getElem_cons_succ, List.getElem_cons_zero]); go_simp; (try (rw [if_neg (by (try simp only [ByteArray.size_append]); omega)])); try (with_reducible rfl); done)))
          try simp only [Act.put, List.getElem_toArray, List.getElem_cons_succ, List.getElem_cons_zero, List.setIfInBounds_toArray, List.set_cons_zero, List.set_cons_succ]
          (refine wpAnyH_take (i := 1) (v := ?_) rfl (by kernel_rfl) (by kernel_rfl) (by kernel_rfl) (fun _ _ _ h => h) (Or.inl ⟨by rfl, ?_⟩) (by assumption) ?_; rotate_left 1; (focus (intro wz hz; (try dsimp only at hz); (try simp only [List.getElem_toArray, List.getElem_cons_succ, List.getElem_cons_zero]); go_simp; (try (rw [if_neg (by (try simp only [ByteArray.size_append]); omega)])); try (with_reducible rfl); done)))
          try simp only [Act.put, List.getElem_toArray, List.getElem_cons_succ, List.getElem_cons_zero, List.setIfInBounds_toArray, List.set_cons_zero, List.set_cons_succ]
          (refine wpAnyH_take (i := 4) (v := ?_) rfl (by kernel_rfl) (by kernel_rfl) (by kernel_rfl) (fun _ _ _ h => h) (Or.inl ⟨by rfl, ?_⟩) (by assumption) ?_; rotate_left 1; (focus (intro wz hz; (try dsimp only at hz); (try simp only [List.getElem_toArray, List.getElem_cons_succ, List.getElem_cons_zero]); go_simp; (try (rw [if_neg (by (try simp only [ByteArray.size_append]); omega)])); try (with_reducible rfl); done)))
          try simp only [Act.put, List.getElem_toArray, List.getElem_cons_succ, List.getElem_cons_zero, List.setIfInBounds_toArray, List.set_cons_zero, List.set_cons_succ]
          (refine wpAnyH_take (i := 5) (v := ?_) rfl (by kernel_rfl) (by kernel_rfl) (by kernel_rfl) (fun _ _ _ h => h) (Or.inl ⟨by rfl, ?_⟩) (by assumption) ?_; rotate_left 1; (focus (intro wz hz; (try dsimp only at hz); (try simp only [List.getElem_toArray, List.getElem_cons_succ, List.getElem_cons_zero]); go_simp; (try (rw [if_neg (by (try simp only [ByteArray.size_append]); omega)])); try (with_reducible rfl); done)))
          try simp only [Act.put, List.getElem_toArray, List.getElem_cons_succ, List.getElem_cons_zero, List.setIfInBounds_toArray, List.set_cons_zero, List.set_cons_succ]
          (refine wpAnyH_take (i := 2) (v := ?_) rfl (by kernel_rfl) (by kernel_rfl) (by kernel_rfl) (fun _ _ _ h => h) (Or.inl ⟨by rfl, ?_⟩) (by assumption) ?_; rotate_left 1; (focus (intro wz hz; (try dsimp only at hz); (try simp only [List.getElem_toArray, List.getElem_cons_succ, List.getElem_cons_zero]); go_simp; (try (rw [if_neg (by (try simp only [ByteArray.size_append]); omega)])); try (with_reducible rfl); done)))
          try simp only [Act.put, List.getElem_toArray, List.getElem_cons_succ, List.getElem_cons_zero, List.setIfInBounds_toArray, List.set_cons_zero, List.set_cons_succ]
          (refine wpAnyH_take (i := 6) (v := ?_) rfl (by kernel_rfl) (by kernel_rfl) (by kernel_rfl) (fun _ _ _ h => h) (Or.inl ⟨by rfl, ?_⟩) (by assumption) ?_; rotate_left 1; (focus (intro wz hz; (try dsimp only at hz); (try simp only [List.getElem_toArray, List.getElem_cons_succ, List.getElem_cons_zero]); go_simp; (try (rw [if_neg (by (try simp only [ByteArray.size_append]); omega)])); try (with_reducible rfl); done)))
          try simp only [Act.put, List.getElem_toArray, List.getElem_cons_succ, List.getElem_cons_zero, List.setIfInBounds_toArray, List.set_cons_zero, List.set_cons_succ]
          (refine wpAnyH_take (i := 3) (v := ?_) rfl (by kernel_rfl) (by kernel_rfl) (by kernel_rfl) (fun _ _ _ h => h) (Or.inl ⟨by rfl, ?_⟩) (by assumption) ?_; rotate_left 1; (focus (intro wz hz; (try dsimp only at hz); (try simp only [List.getElem_toArray, List.getElem_cons_succ, List.getElem_cons_zero]); go_simp; (try (rw [if_neg (by (try simp only [ByteArray.size_append]); omega)])); try (with_reducible rfl); done)))
          try simp only [Act.put, List.getElem_toArray, List.getElem_cons_succ, List.getElem_cons_zero, List.setIfInBounds_toArray, List.set_cons_zero, List.set_cons_succ]
          (refine wpAnyH_take (i := 7) (v := ?_) rfl (by kernel_rfl) (by kernel_rfl) (by kernel_rfl) (fun _ _ _ h => h) (Or.inl ⟨by rfl, ?_⟩) (by assumption) ?_; rotate_left 1; (focus (intro wz hz; (try dsimp only at hz); (try simp only [List.getElem_toArray, List.getElem_cons_succ, List.getElem_cons_zero]); go_simp; (try (rw [if_neg (by (try simp only [ByteArray.size_append]); omega)])); try (with_reducible rfl); done)))
          try simp only [Act.put, List.getElem_toArray, List.getElem_cons_succ, List.getElem_cons_zero, List.setIfInBounds_toArray, List.set_cons_zero, List.set_cons_succ]
          (refine wpAnyH_take (i := 8) (v := ?_) rfl (by kernel_rfl) (by kernel_rfl) (by kernel_rfl) (fun _ _ _ h => h) (Or.inl ⟨by rfl, ?_⟩) (by assumption) ?_; rotate_left 1; (focus (intro wz hz; (try dsimp only at hz); (try simp only [List.getElem_toArray, List.getElem_cons_succ, List.getElem_cons_zero]); go_simp; (try (rw [if_neg (by (try simp only [ByteArray.size_append]); omega)])); try (with_reducible rfl); done)))
          try simp only [Act.put, List.getElem_toArray, List.getElem_cons_succ, List.getElem_cons_zero, List.setIfInBounds_toArray, List.set_cons_zero, List.set_cons_succ]
          refine wpAnyH_done (by kernel_rfl) ?_ _
          clear hHeld nq
          go_wp2
          go_roundw
          case rel => exact ⟨j + 1, by go_num, by omega, Lib.hid HB.out.drew⟩
          case measure => simp [intOf]; omega
        · have hjl' : ¬ (j : Int) < ot.length := by omega
          have hT9 := Lib.hid (hT8.out.call HB.out)
          clear HE HR5 HR6 hT8
          go_wp2
          go_roundw
          case rel => exact ⟨k + 1, m, rfl, by go_num, by omega, hm2.out, Lib.hid ⟨C5, D6, l2, hT9.out, HL2.out⟩⟩
          case measure => simp [intOf]; omega
    · obtain rfl : k = l.length := by omega
      have hlt' : ¬ (l.length : Int) < l.length := by omega
      obtain ⟨C, D, l0, T0, -⟩ := HT.out
      have hB := T0.B
      clear HT T0
      go_wp2_with fail
      refine (awake_any _).mono ?_; rintro _ w9 ⟨rfl, hb9⟩
      go_wp2
      go_ret
      exact ⟨rfl, below_call hb9 hB.size hB⟩

set_option maxRecDepth 100000 in
theorem wslots_lifted (os : Os) (started : os.Started) (H : Type) (enc : TypeId × Value → H) :
    ReturnsInHanded {} Try.checked os 6 .any (Rows.wheelSlotsSpec.pre6 enc Try.prog Try.f6 Rows.wheelSlotsRow.domain false) (Rows.wheelSlotsSpec.post enc Try.prog Try.f6 false true false false) := by
  refine returnsInHanded_of_change (C := Try.checked) own started (by kernel_rfl) Try.func6
    (ChangeSpec.witness6 (enc := enc) (C := Try.checked) false ⟨#[], #[.int .u8 0, .int .u8 0, .slice none 0 0], []⟩ 8 (by kernel_rfl) (by kernel_rfl) (by kernel_rfl) (by kernel_rfl)) ?_
  intro W base args ds gs before hval0 hW hcnd _
  have hval : ∀ (j : Nat) t v, Try.f6.params[j]? = some t → args[j]? = some v → Value.okWide Try.prog W .any base t v := hval0
  have hW' := hW
  obtain ⟨p, q, hA0, hV, rfl, hfz, hnd⟩ := hW
  have hA : DataW.TrodAll enc Try.prog W 0 (fun _ => true) true Try.f6.params.toList args.toList ds p := hA0
  rw [Try.params6] at hA hval
  obtain ⟨v0, vs0, d0, ds0, p0, q0, hargs, rfl, rfl, h0, r0⟩ := trodAll_cons hA
  obtain ⟨v1, vs1, d1, ds1, p1, q1, rfl, rfl, rfl, h1, r1⟩ := trodAll_cons r0
  obtain ⟨v2, vs2, d2, ds2, p2, q2, rfl, rfl, rfl, h2, r2⟩ := trodAll_cons r1
  obtain ⟨rfl, rfl, rfl⟩ := trodAll_nil r2
  obtain rfl : args = #[v0, v1, v2] := by cases args; simp_all
  obtain ⟨rfl, rfl⟩ := trodVars_none hV
  obtain ⟨a, rfl, rfl, rfl, hba⟩ := open_int Try.underlying5 (hval 0 5 v0 rfl rfl) h0
  obtain ⟨b, rfl, rfl, rfl, hbb⟩ := open_int Try.underlying5 (hval 1 5 v1 rfl rfl) h1
  obtain ⟨l, hl, hok⟩ := open_plans (hval 2 57 v2 rfl rfl) h2
  refine (wslots_walk a b v2 l W (bounds_u8 hba) (bounds_u8 hbb) hl hok).mono fun e W' ⟨he, hb⟩ => ?_
  subst he
  exact ⟨_, rfl, law_post rfl rfl Try.underlying4 (by kernel_rfl) rfl hW' hb⟩
theorem wslots_holds : Rows.WheelSlotsSaid :=
  OpenClaim.holds_of_wide 6 Try.f6 rfl rfl rfl rfl rfl rfl rfl ⟨rfl, rfl, rfl, rfl, rfl⟩ rfl rfl rfl rfl rfl (by kernel_rfl) Try.func6 (by kernel_rfl)
    (of_decide_eq_true (by kernel_rfl)) (by unfold Func.isWrapper; first | (rw [if_pos (by decide +kernel)]; kernel_rfl) | (rw [if_neg (by decide +kernel)]; exact ⟨rfl, rfl⟩))
    (fun os started H enc _ => wslots_lifted os started H enc)
end Go.Proofs.Ytcanaadcjipfjaa
