/- WheelPlays: whatever is set, and stopped, and however time goes on, a wheel answers, and has due, what the document says: the statement holds for every input. No condition. -/
import Derived.Test.YtcanaadcjipfjaaLawKit
import Derived.Test.YtcanaadcjipfjaaLawOpen15
import Derived.Test.YtcanaadcjipfjaaW15W
namespace Go.Proofs.Ytcanaadcjipfjaa
open Go.RowKit Go.ChangeShapes Go.WideShapes Go.ChangeAt
set_option linter.unusedVariables false
set_option linter.unusedSimpArgs false

theorem setW_len (l : List Du) (now id a : Int) : (setW l now id a).length ≤ l.length + 1 := by
  unfold setW
  split
  · rw [ins_len]
    have := List.length_filter_le (fun e : Du => decide (e.1 ≠ id)) l
    unfold delW
    omega
  · omega
theorem delW_len (l : List Du) (id : Int) : (delW l id).length ≤ l.length := List.length_filter_le _ _
theorem go_len (l : List Du) (now t2 : Int) : (goL l now t2).length ≤ l.length ∧ (goW l now t2).length ≤ l.length := by
  have := congrArg List.length (go_app l now t2)
  rw [List.length_append] at this
  omega
theorem IsL.but {w w' : World} {C : Nat → Prop} {v : Value} {L : List Du} (h : IsL w v L) (hC : L ≠ [] → ∀ q, v.ownBlock = some q → ¬ C q) (hb : ButC C w w') : IsL w' v L := by
  obtain ⟨⟨p, cap, rfl, hn, h1⟩, h2⟩ := h
  refine ⟨⟨p, cap, rfl, hn, fun j hj => ?_⟩, h2⟩
  obtain ⟨b, off, rfl, g⟩ := h1 j hj
  exact ⟨b, off, rfl, fun c u hu => hb.cell (g c u hu) (hC (fun e => by rw [e] at hj; cases hj) b rfl)⟩
/-- where a slice that is not empty lies, something lies -/
theorem IsL.lt {w : World} {v : Value} {L : List Du} (h : IsL w v L) (hL : L ≠ []) (q : Nat) (hq : v.ownBlock = some q) : q < w.heap.size := by
  obtain ⟨⟨p, cap, rfl, hn, h1⟩, _⟩ := h
  obtain ⟨b, off, rfl, g⟩ := h1 0 (List.length_pos_iff.2 hL)
  obtain rfl : b = q := by cases hq; rfl
  exact World.block_lt_of_cell? _ _ (g 0 _ rfl)
theorem but_set {w W : World} {b : Nat} (h : ButC (fun q => q = b) w W) (o : Nat) (u : Value) : ButC (fun q => q = b) w (W.setCell ⟨b, o, none⟩ u) :=
  ⟨h.1.setCell (Nat.zero_le _) _, fun q hq hne => (Below.heap_setCell W ⟨b, o, none⟩ u q (by show q ≠ b; exact hne)).trans (h.2 q hq hne)⟩
/-- a wheel, and beside it the document's -/
structure On16 (w0 w : World) (C : Nat → Prop) (g N : Nat) (nw : Int) (l : List Du) (b : Nat) (nd : Int) (ld : List Du) (v : Value) : Prop where
  a : LieW w C g N nw l
  r : Rw3 w b N nd v
  i : IsL w v ld
  f : ld ≠ [] → ∀ q, v.ownBlock = some q → ¬ C q ∧ q ≠ b
  d : ¬ C b
  c : ∀ q, C q → w0.heap.size ≤ q
  o : w0.heap.size ≤ b
  B : Below w0.heap.size w0 w
section
variable {w0 w w' : World} {C : Nat → Prop} {g N : Nat} {nw : Int} {l : List Du} {b : Nat} {nd : Int} {ld : List Du} {v : Value}
theorem On16.call (T : On16 w0 w C g N nw l b nd ld v) (hb : Below w.heap.size w w') : On16 w0 w' C g N nw l b nd ld v :=
  ⟨T.a.keep (fun q hq => hb.block q (T.a.lt q hq)), T.r.call hb, T.i.call hb, T.f, T.d, T.c, T.o, T.B.trans (hb.mono T.B.size)⟩
theorem On16.did {nw' : Int} {l' : List Du} (T : On16 w0 w C g N nw l b nd ld v) (H : Did15 w w' C g N nw' l') : ∃ C', On16 w0 w' C' g N nw' l' b nd ld v := by
  obtain ⟨C', H, hC, hb⟩ := H
  have hbl : b < w.heap.size := T.r.1.lt
  refine ⟨C', H, ⟨⟨hb.cell T.r.1.1 T.d, hb.cell T.r.1.2.1 T.d, hb.cell T.r.1.2.2 T.d⟩, (hb.frozen hbl T.d).trans T.r.2.1, (hb.frozen hbl T.d).trans T.r.2.2.1, (hb.frozen hbl T.d).trans T.r.2.2.2⟩, T.i.but (fun hne q hq => (T.f hne q hq).1) hb, fun hne q hq => ⟨fun hc => ?_, (T.f hne q hq).2⟩, fun hc => ?_, fun q hq => ?_, T.o, T.B.trans (hb.to T.c T.B.size)⟩
  · rcases hC q hc with k | k
    · exact (T.f hne q hq).1 k
    · have := T.i.lt hne q hq; omega
  · rcases hC b hc with k | k
    · exact T.d k
    · omega
  · rcases hC q hq with k | k
    · exact T.c q k
    · exact Nat.le_trans T.B.size k
theorem On16.put (T : On16 w0 w C g N nw l b nd ld v) (nd' : Int) (ld' : List Du) (v' : Value) (hI : IsL w v' ld') (hf : ld' ≠ [] → ∀ q, v'.ownBlock = some q → ¬ C q ∧ q ≠ b) :
    On16 w0 (((w.setCell ⟨b, 0, none⟩ (.int .i64 N)).setCell ⟨b, 1, none⟩ (.int .i64 nd')).setCell ⟨b, 2, none⟩ v') C g N nw l b nd' ld' v' := by
  have hbut : ButC (fun q => q = b) w (((w.setCell ⟨b, 0, none⟩ (.int .i64 N)).setCell ⟨b, 1, none⟩ (.int .i64 nd')).setCell ⟨b, 2, none⟩ v') := but_set (but_set (but_set (ButC.refl _ _) _ _) _ _) _ _
  obtain ⟨⟨x0, x1, x2⟩, f0, f1, f2⟩ := T.r
  refine ⟨T.a.keep (fun q hq => hbut.2 q (T.a.lt q hq) (fun e => T.d (by rw [← e]; exact hq))), ?_, hI.but (fun hne q hq => (hf hne q hq).2) hbut, hf, T.d, T.c, T.o, ((T.B.setCell T.o _).setCell T.o _).setCell T.o _⟩
  simp [Rw3, Wh3, go_sem, x0, x1, x2, f0, f1, f2]
end
theorem rw3_new {W W' : World} {t : TypeId} (h : Below (W.alloc (.cells #[.int .i64 0, .int .i64 0, .slice none 0 0] t)).drew.heap.size (W.alloc (.cells #[.int .i64 0, .int .i64 0, .slice none 0 0] t)).drew W') : Rw3 W' W.heap.size 0 0 (.slice none 0 0) := by
  have h0 : Rw3 (W.alloc (.cells #[.int .i64 0, .int .i64 0, .slice none 0 0] t)).drew W.heap.size 0 0 (.slice none 0 0) := by simp [Rw3, Wh3, go_sem]
  exact h0.call h
theorem own_ge {te : TypeId} {w : World} {B : Nat} {v : Value} {L : List Du} (h : OwnR te 2 duC w B v L) (q : Nat) (hq : v.ownBlock = some q) : B ≤ q := by
  rcases h.2 with ⟨hv, _⟩ | ⟨g, cap, cur, hv, hB, _⟩
  · rw [hv] at hq
    cases hq
  · rw [hv] at hq
    obtain rfl : g = q := by cases hq; rfl
    exact hB
/-- a new box that holds what a call of the document's has told -/
def BoxX (w4 wx : World) (qx : Nat) (N n : Int) (v' : Value) (L : List Du) : Prop := Wh3 wx qx N n v' ∧ IsL wx v' L ∧ (∀ q, v'.ownBlock = some q → w4.heap.size ≤ q) ∧ Below w4.heap.size w4 wx
theorem boxX_1 {te : TypeId} {w4 wn : World} {B : Nat} {v5 : Value} {L : List Du} (ho : OwnR te 2 duC wn B v5 L) (hB : w4.heap.size ≤ B) (hb : Below w4.heap.size w4 wn) (t : TypeId) (N n : Int) : BoxX w4 (wn.alloc (.cells #[.int .i64 N, .int .i64 n, v5] t)) wn.heap.size N n v5 L :=
  ⟨by simp [Wh3, go_sem], (own_isL ho).call (below_alloc (Nat.le_refl _) (Below.refl _ _) _), fun q hq => Nat.le_trans hB (own_ge ho q hq), below_alloc hb.size hb _⟩
theorem boxX_2 {te : TypeId} {w4 wn : World} {B : Nat} {v5 : Value} {L : List Du} (ho : OwnR te 2 duC wn B v5 L) (hB : w4.heap.size + 1 ≤ B) (hb : Below w4.heap.size w4 wn) (hr : Rw3 wn w4.heap.size 0 0 (.slice none 0 0)) (N n : Int) :
    BoxX w4 (((wn.setCell ⟨w4.heap.size, 0, none⟩ (.int .i64 N)).setCell ⟨w4.heap.size, 1, none⟩ (.int .i64 n)).setCell ⟨w4.heap.size, 2, none⟩ v5) w4.heap.size N n v5 L := by
  obtain ⟨⟨x0, x1, x2⟩, f0, f1, f2⟩ := hr
  refine ⟨by simp [Wh3, go_sem, x0, x1, x2], (own_isL ho).but (C := fun q => q = w4.heap.size) (fun _ q hq e => ?_) (but_set (but_set (but_set (ButC.refl _ _) _ _) _ _) _ _), fun q hq => Nat.le_trans (Nat.le_succ _) (Nat.le_trans hB (own_ge ho q hq)), ((hb.setCell (Nat.le_refl _) _).setCell (Nat.le_refl _) _).setCell (Nat.le_refl _) _⟩
  have := own_ge ho q hq
  omega
/-- a new box that holds what a call of the document's has told, apart from the wheel -/
def BoxY (w4 wx : World) (C : Nat → Prop) (b qx : Nat) (N n : Int) (v' : Value) (L : List Du) : Prop := Wh3 wx qx N n v' ∧ IsL wx v' L ∧ (L ≠ [] → ∀ q, v'.ownBlock = some q → ¬ C q ∧ q ≠ b) ∧ Below w4.heap.size w4 wx
theorem boxY_1 {w4 wn : World} {C : Nat → Prop} {b : Nat} {v5 : Value} {L : List Du} (hI : IsL wn v5 L) (hf : L ≠ [] → ∀ q, v5.ownBlock = some q → ¬ C q ∧ q ≠ b) (hb : Below w4.heap.size w4 wn) (t : TypeId) (N n : Int) : BoxY w4 (wn.alloc (.cells #[.int .i64 N, .int .i64 n, v5] t)) C b wn.heap.size N n v5 L :=
  ⟨by simp [Wh3, go_sem], hI.call (below_alloc (Nat.le_refl _) (Below.refl _ _) _), hf, below_alloc hb.size hb _⟩
theorem boxY_2 {w4 wn : World} {C : Nat → Prop} {b : Nat} {v5 : Value} {L : List Du} (hI : IsL wn v5 L) (hf : L ≠ [] → ∀ q, v5.ownBlock = some q → ¬ C q ∧ q ≠ b) (hq : L ≠ [] → ∀ q, v5.ownBlock = some q → q ≠ w4.heap.size) (hb : Below w4.heap.size w4 wn) (hr : Rw3 wn w4.heap.size 0 0 (.slice none 0 0)) (N n : Int) :
    BoxY w4 (((wn.setCell ⟨w4.heap.size, 0, none⟩ (.int .i64 N)).setCell ⟨w4.heap.size, 1, none⟩ (.int .i64 n)).setCell ⟨w4.heap.size, 2, none⟩ v5) C b w4.heap.size N n v5 L := by
  obtain ⟨⟨x0, x1, x2⟩, f0, f1, f2⟩ := hr
  exact ⟨by simp [Wh3, go_sem, x0, x1, x2], hI.but (C := fun q => q = w4.heap.size) (fun hne q hq' e => hq hne q hq' e) (but_set (but_set (but_set (ButC.refl _ _) _ _) _ _) _ _), hf, ((hb.setCell (Nat.le_refl _) _).setCell (Nat.le_refl _) _).setCell (Nat.le_refl _) _⟩
theorem own_apart {te : TypeId} {w w4 : World} {B : Nat} {v : Value} {L : List Du} {C : Nat → Prop} {b : Nat} (h : OwnR te 2 duC w B v L) (hB : w4.heap.size ≤ B) (hC : ∀ q, C q → q < w4.heap.size) (hb : b < w4.heap.size) : L ≠ [] → ∀ q, v.ownBlock = some q → ¬ C q ∧ q ≠ b := fun _ q hq => by
  have := own_ge h q hq
  refine ⟨fun hc => ?_, by omega⟩
  have := hC q hc
  omega
theorem box_ne {w4 : World} {L : List Du} {v : Value} {M : Nat} (h : L ≠ [] → ∀ q, v.ownBlock = some q → q < w4.heap.size ∨ (w4.alloc (.cells #[.int .i64 0, .int .i64 0, .slice none 0 0] M)).drew.heap.size ≤ q) : L ≠ [] → ∀ q, v.ownBlock = some q → q ≠ w4.heap.size := fun hne q hq => by
  have e : (w4.alloc (.cells #[.int .i64 0, .int .i64 0, .slice none 0 0] M)).drew.heap.size = w4.heap.size + 1 := by simp
  rcases h hne q hq with h | h
  · omega
  · omega
theorem del_is {l : List Du} {now : Int} (h : GoodW l now) (id : Int) : decide ((delW l id).length < l.length) = isW l id := by
  have := del_len h.u id
  cases hh : isW l id
  · rw [hh] at this
    simp at this
    exact decide_eq_false (by omega)
  · rw [hh] at this
    simp at this
    exact decide_eq_true (by omega)
set_option maxRecDepth 100000 in
set_option maxHeartbeats 16000000 in
theorem wplays_walk (sl : Int) (v : Value) (l : List Ac15) (w : World) (hs : I64 sl) (hv : IsR 3 acC w v l) (hok : ∀ x ∈ l, AcOk x) :
    Calls Try.prog 3 #[.int .i64 sl, v] w fun e w' => e = .returned (.bool true) ∧ Below w.heap.size w w' := by
  obtain ⟨p, cap, rfl, -, hp⟩ := hv
  have HP := Lib.hid hp
  have HK := Lib.hid hok
  clear hp hok
  by_cases hl : 60 < l.length
  · have hl' : (60 : Int) < l.length := by omega
    clear hl
    go_enter Try.func3, Try.ntmps3
    go_wp2_with fail
    refine (awake_any _).mono ?_; rintro e w1 ⟨rfl, hb1⟩
    go_wp2
    go_ret
    exact ⟨rfl, hb1⟩
  have hl' : ¬ (60 : Int) < l.length := by omega
  have HLL := Lib.hid (show l.length ≤ 60 by omega)
  clear hl
  by_cases hn : sl < 1 ∨ 32 < sl
  · have HN := Lib.hid hn
    clear hn
    go_enter Try.func3, Try.ntmps3
    go_wp2_with fail
    refine (wnew_no sl _ hs HN.out).mono ?_; rintro e w1 ⟨rfl, hb1⟩
    have B1 := Lib.hid hb1
    clear hb1
    go_wp2_with fail
    refine (refnew_no sl _ HN.out).mono ?_; rintro e w2 ⟨rfl, hb2⟩
    have B2 := Lib.hid (below_call hb2 B1.out.size B1.out)
    clear hb2 B1
    go_upto_region 7 with fail
    refine gen_world (F := fun W => Below w.heap.size w W) (below_alloc B2.out.size B2.out _) (fun w3 hB3 => ?_)
    go_wp2
    go_loopw [9] (fun i wr => i = .int .i64 0 ∧ wr = w3) (fun _ _ => 0)
    case atStart => exact ⟨rfl, rfl⟩
    case round =>
      obtain ⟨rfl, rfl⟩ := hrel
      by_cases hl0 : 0 < l.length
      · have hl0' : (0 : Int) < l.length := by omega
        go_wp2_with fail
        refine (awake_any _).mono ?_; rintro e w9 ⟨rfl, hb9⟩
        go_wp2
        go_ret
        exact ⟨rfl, below_call hb9 hB3.size hB3⟩
      · have hl0' : ¬ (0 : Int) < l.length := by omega
        go_wp2_with fail
        refine (awake_any _).mono ?_; rintro e w9 ⟨rfl, hb9⟩
        go_wp2
        go_ret
        exact ⟨rfl, below_call hb9 hB3.size hB3⟩
  obtain ⟨N, rfl⟩ : ∃ N : Nat, sl = N := ⟨sl.toNat, by omega⟩
  have hNb := Lib.hid (show 1 ≤ N ∧ N ≤ 32 by omega)
  clear hn hs
  go_enter Try.func3, Try.ntmps3
  go_wp2_with fail
  refine (wnew_yes N _ hNb.out).mono ?_; rintro e w1 ⟨g, C, rfl, H1, hC, hb1⟩
  have L1 := H1.lt
  go_wp2_with fail
  refine (refnew_yes (N : Int) _ (by have := hNb.out; omega) (by have := hNb.out; omega)).mono ?_; rintro e w2 ⟨rfl, hb2⟩
  have ha : Below w2.heap.size w2 (w2.alloc (.cells #[.int .i64 N, .int .i64 0, .slice none 0 0] 30)) := below_alloc (Nat.le_refl _) (Below.refl _ _) _
  have HT : Hid (∃ C l0 vv nw, On16 w (w2.alloc (.cells #[.int .i64 N, .int .i64 0, .slice none 0 0] 30)) C g N nw l0 w2.heap.size nw l0 vv ∧ l0.length ≤ 0) := Lib.hid ⟨C, [], .slice none 0 0, 0, ⟨(H1.keep (fun q hq => hb2.block q (L1 q hq))).keep (fun q hq => ha.block q (Nat.lt_of_lt_of_le (L1 q hq) hb2.size)), by simp [Rw3, Wh3, go_sem], IsL.nil _, (fun h => absurd rfl h), fun hc => by have := L1 _ hc; have := hb2.size; omega, hC, Nat.le_trans hb1.size hb2.size, below_alloc (below_call hb2 hb1.size hb1).size (below_call hb2 hb1.size hb1) _⟩, Nat.le_refl _⟩
  obtain ⟨bm, hbm⟩ : ∃ bm, bm = w2.heap.size := ⟨_, rfl⟩
  rw [← hbm] at HT
  go_upto_region 5 with fail
  rw [← hbm]
  generalize w2.alloc (.cells #[.int .i64 N, .int .i64 0, .slice none 0 0] 30) = w3 at HT ⊢
  clear H1 hC hb1 hb2 ha L1 hbm
  go_wp2
  go_loopw [9] (fun i wr => ∃ k : Nat, i = .int .i64 k ∧ k ≤ l.length ∧ Hid (∃ C l0 vv nw, On16 w wr C g N nw l0 bm nw l0 vv ∧ l0.length ≤ k)) (fun i _ => l.length - (intOf i).toNat)
  case atStart => exact ⟨0, rfl, Nat.zero_le _, HT⟩
  case round =>
    clear HT
    obtain ⟨k, rfl, hk, HT⟩ := hrel
    have hk60 : k ≤ 60 := by have := HLL.out; omega
    by_cases hlt : k < l.length
    · have hlt' : (k : Int) < l.length := by omega
      obtain ⟨bb, off, rfl, cl⟩ := HP.out k hlt
      have hok := HK.out l[k] (List.getElem_mem hlt)
      obtain ⟨kd, hkd⟩ : ∃ x, l[k].1 = x := ⟨_, rfl⟩
      obtain ⟨i0, hi0⟩ : ∃ x, l[k].2.1 = x := ⟨_, rfl⟩
      obtain ⟨i1, hi1⟩ : ∃ x, l[k].2.2 = x := ⟨_, rfl⟩
      have c0 := cl 0 _ rfl
      have c1 := cl 1 _ rfl
      have c2 := cl 2 _ rfl
      unfold AcOk at hok
      rw [hkd] at c0 hok
      rw [hi0] at c1 hok
      rw [hi1] at c2 hok
      simp only [Nat.add_zero] at c0
      have HCL : Hid (∀ W, Below w.heap.size w W → W.cell? ⟨bb, off + k * 3, none⟩ = some (.int .u8 kd) ∧ W.cell? ⟨bb, off + k * 3 + 1, none⟩ = some (.int .i64 i0) ∧ W.cell? ⟨bb, off + k * 3 + 2, none⟩ = some (.int .i64 i1)) := Lib.hid (fun W hB => ⟨(hB.cell (p := ⟨bb, off + k * 3, none⟩) (World.block_lt_of_cell? _ _ c0)).trans c0, (hB.cell (p := ⟨bb, off + k * 3 + 1, none⟩) (World.block_lt_of_cell? _ _ c1)).trans c1, (hB.cell (p := ⟨bb, off + k * 3 + 2, none⟩) (World.block_lt_of_cell? _ _ c2)).trans c2⟩)
      obtain ⟨C, l0, vv, nw, T0, hll⟩ := HT.out
      obtain ⟨q, hq, hq2, hqb⟩ : ∃ q : Int, Int.tmod kd 4 = q ∧ kd % 4 = q ∧ 0 ≤ q ∧ q ≤ 3 := ⟨_, rfl, by rw [Int.tmod_eq_emod_of_nonneg hok.1.1], by rw [Int.tmod_eq_emod_of_nonneg hok.1.1]; omega, by rw [Int.tmod_eq_emod_of_nonneg hok.1.1]; omega⟩
      have hwq : IntKind.u8.wrap q = q := IntWalk.u8_in _ (by omega)
      have HOK := Lib.hid hok.2
      have hT0 := Lib.hid T0
      obtain ⟨d0, d1, d2⟩ := HCL.out _ T0.B
      clear c0 c1 c2 cl hkd hi0 hi1 hok HT T0
      go_upto_region 10 with fail
      go_cut [68] (fun kv wx => kv = .int .u8 q ∧ wx = wr)
      case first =>
        go_wp2
        go_meet
        exact ⟨rfl, rfl⟩
      case rest =>
        obtain ⟨rfl, rfl⟩ := hcut
        apply_assumption
        go_cut [] (fun wx => Hid (∃ C l1 vv n2, On16 w wx C g N n2 l1 bm n2 l1 vv ∧ l1.length ≤ k + 1))
        case first =>
          have hGood := Lib.hid hT0.out.a.good.1
          clear HP HK hlt hq hq2 hwq
          by_cases hq2 : q = 2
          · as_aux_lemma =>
            subst hq2
            clear hqb
            have hdi := Lib.hid (del_is hGood.out i0)
            have cst := Lib.hid (wstop_any C g N nw l0 wc hT0.out.a i0 HOK.out.1)
            go_wp2_with fail
            refine cst.out.mono ?_; rintro e w4 ⟨rfl, hd4⟩
            obtain ⟨C4, T4⟩ := hT0.out.did hd4
            have hT4 := Lib.hid T4
            obtain ⟨⟨m0, m1, m2⟩, fz0, fz1, fz2⟩ := T4.r
            clear d0 d1 d2
            obtain ⟨d0, d1, d2⟩ := HCL.out _ T4.B
            clear hd4 cst T4 hT0
            go_upto_region 19 with fail
            go_cut [11, 12] (fun px bv wx => ∃ qx v', px = .pointer (some ⟨qx, 0, none⟩) ∧ bv = .bool (isW l0 i0) ∧ BoxX w4 wx qx N nw v' (delW l0 i0))
            case first =>
              have cdo := Lib.hid (fun W (hb : Below w4.heap.size w4 W) => refstop_any N nw i0 vv l0 W (hT4.out.i.call hb).1 (by omega))
              have hS := Lib.hid (fun W (hb : Below w4.heap.size w4 W) => (show (W.cell? ⟨bm, 0, none⟩ = some (.int .i64 N) ∧ W.cell? ⟨bm, 1, none⟩ = some (.int .i64 nw) ∧ W.cell? ⟨bm, 2, none⟩ = some vv) ∧ W.cell? ⟨bb, off + k * 3 + 1, none⟩ = some (.int .i64 i0) from ⟨(hT4.out.r.call hb).1, (HCL.out _ (hT4.out.B.trans (hb.mono hT4.out.B.size))).2.1⟩))
              have hT0' : Below w4.heap.size w4 w4.drew := Below.drew (Below.refl _ _)
              rw [hdi.out] at cdo
              clear m0 m1 m2 fz0 fz1 fz2 d0 d1 d2
              refine wp_region_held_drew (S := fun W => (W.cell? ⟨bm, 0, none⟩ = some (.int .i64 N) ∧ W.cell? ⟨bm, 1, none⟩ = some (.int .i64 nw) ∧ W.cell? ⟨bm, 2, none⟩ = some vv) ∧ W.cell? ⟨bb, off + k * 3 + 1, none⟩ = some (.int .i64 i0)) (by kernel_rfl) (hS.out _ (by assumption)) (fun hHeld => ?_)
              (refine wpAnyH_take (i := 0) (v := ?_) rfl (by kernel_rfl) (by kernel_rfl) (by kernel_rfl) (fun _ _ _ h => h) (Or.inl ⟨by rfl, ?_⟩) (by assumption) ?_; rotate_left 1; (focus (intro wz hz; (try dsimp only at hz); (try simp only [List.getElem_toArray, List.getElem_cons_succ, List.getElem_cons_zero]); go_simp; (try (rw [if_neg (by (try simp only [ByteArray.size_append]); omega)])); try (with_reducible rfl); done)))
              try simp only [Act.put, List.getElem_toArray, List.getElem_cons_succ, List.getElem_cons_zero, List.setIfInBounds_toArray, List.set_cons_zero, List.set_cons_succ]
              (refine wpAnyH_take (i := 1) (v := ?_) rfl (by kernel_rfl) (by kernel_rfl) (by kernel_rfl) (fun _ _ _ h => h) (Or.inl ⟨by rfl, ?_⟩) (by assumption) ?_; rotate_left 1; (focus (intro wz hz; (try dsimp only at hz); (try simp only [List.getElem_toArray, List.getElem_cons_succ, List.getElem_cons_zero]); go_simp; (try (rw [if_neg (by (try simp only [ByteArray.size_append]); omega)])); try (with_reducible rfl); done)))
              try simp only [Act.put, List.getElem_toArray, List.getElem_cons_succ, List.getElem_cons_zero, List.setIfInBounds_toArray, List.set_cons_zero, List.set_cons_succ]
              (refine wpAnyH_take (i := 2) (v := ?_) rfl (by kernel_rfl) (by kernel_rfl) (by kernel_rfl) (fun _ _ _ h => h) (Or.inl ⟨by rfl, ?_⟩) (by assumption) ?_; rotate_left 1; (focus (intro wz hz; (try dsimp only at hz); (try simp only [List.getElem_toArray, List.getElem_cons_succ, List.getElem_cons_zero]); go_simp; (try (rw [if_neg (by (try simp only [ByteArray.size_append]); omega)])); try (with_reducible rfl); done)))
              try simp only [Act.put, List.getElem_toArray, List.getElem_cons_succ, List.getElem_cons_zero, List.setIfInBounds_toArray, List.set_cons_zero, List.set_cons_succ]
              (refine wpAnyH_take (i := 3) (v := ?_) rfl (by kernel_rfl) (by kernel_rfl) (by kernel_rfl) (fun _ _ _ h => h) (Or.inl ⟨by rfl, ?_⟩) (by assumption) ?_; rotate_left 1; (focus (intro wz hz; (try dsimp only at hz); (try simp only [List.getElem_toArray, List.getElem_cons_succ, List.getElem_cons_zero]); go_simp; (try (rw [if_neg (by (try simp only [ByteArray.size_append]); omega)])); try (with_reducible rfl); done)))
              try simp only [Act.put, List.getElem_toArray, List.getElem_cons_succ, List.getElem_cons_zero, List.setIfInBounds_toArray, List.set_cons_zero, List.set_cons_succ]
              (refine wpAnyH_take (i := 4) (v := ?_) rfl (by kernel_rfl) (by kernel_rfl) (by kernel_rfl) (fun _ _ _ h => h) (Or.inl ⟨by rfl, ?_⟩) (by assumption) ?_; rotate_left 1; (focus (intro wz hz; (try dsimp only at hz); (try simp only [List.getElem_toArray, List.getElem_cons_succ, List.getElem_cons_zero]); go_simp; (try (rw [if_neg (by (try simp only [ByteArray.size_append]); omega)])); try (with_reducible rfl); done)))
              try simp only [Act.put, List.getElem_toArray, List.getElem_cons_succ, List.getElem_cons_zero, List.setIfInBounds_toArray, List.set_cons_zero, List.set_cons_succ]
              (refine wpAnyH_take (i := 5) (v := ?_) rfl (by kernel_rfl) (by kernel_rfl) (by kernel_rfl) (fun _ _ _ h => h) (Or.inl ⟨by rfl, ?_⟩) (by assumption) ?_; rotate_left 1; (focus (intro wz hz; (try dsimp only at hz); (try simp only [List.getElem_toArray, List.getElem_cons_succ, List.getElem_cons_zero]); go_simp; (try (rw [if_neg (by (try simp only [ByteArray.size_append]); omega)])); try (with_reducible rfl); done)))
              try simp only [Act.put, List.getElem_toArray, List.getElem_cons_succ, List.getElem_cons_zero, List.setIfInBounds_toArray, List.set_cons_zero, List.set_cons_succ]
              refine wpAnyH_ready (rs := [6, 10]) (by kernel_rfl) (by simp) ?_
              refine AllReadyH.cons rfl (fun K hK => ?_) (AllReadyH.cons rfl (fun K hK => ?_) AllReadyH.nil)
              · ((try simp only [List.getElem_toArray, List.getElem_cons_succ, List.getElem_cons_zero]); go_simp; go_at_call 11; refine (cdo.out _ (by (repeat (first | (with_reducible exact Below.refl _ _) | ((with_reducible refine below_alloc ?_ ?_ _); · (first | omega | (simp; done) | (simp; omega))) | ((with_reducible refine below_setCell ?_ ?_ _); · (first | omega | (simp; done) | (simp; omega))) | (with_reducible refine Below.drew ?_) | (with_reducible refine below_drewN ?_ _) | ((with_reducible refine below_call (by assumption) ?_ ?_); · (first | omega | (simp; done) | (simp; omega))))))).mono ?_; rintro e wn6 ⟨v5, rfl, ho5, hbn6⟩; have hT6 : Below w4.heap.size w4 wn6 := (by (repeat (first | (with_reducible exact Below.refl _ _) | ((with_reducible refine below_alloc ?_ ?_ _); · (first | omega | (simp; done) | (simp; omega))) | ((with_reducible refine below_setCell ?_ ?_ _); · (first | omega | (simp; done) | (simp; omega))) | (with_reducible refine Below.drew ?_) | (with_reducible refine below_drewN ?_ _) | ((with_reducible refine below_call (by assumption) ?_ ?_); · (first | omega | (simp; done) | (simp; omega)))))); have z6 := hT6.size; obtain ⟨p5, c5, rfl⟩ := ho5.form; (try (have RW : Rw3 wn6 w4.heap.size 0 0 (.slice none 0 0) := rw3_new hbn6; obtain ⟨⟨r0, r1, r2⟩, fr0, fr1, fr2⟩ := And.intro RW.1 RW.2)); (try (go_wp2_with fail)); refine hK.out _ _ (hS.out _ (by assumption)) (fun hHeld => ?_); clear hK K)
                try simp only [Act.put, List.getElem_toArray, List.getElem_cons_succ, List.getElem_cons_zero, List.setIfInBounds_toArray, List.set_cons_zero, List.set_cons_succ]
                (refine wpAnyH_take (i := 7) (v := ?_) rfl (by kernel_rfl) (by kernel_rfl) (by kernel_rfl) (fun _ _ _ h => h) (Or.inl ⟨by rfl, ?_⟩) (by assumption) ?_; rotate_left 1; (focus (intro wz hz; (try dsimp only at hz); (try simp only [List.getElem_toArray, List.getElem_cons_succ, List.getElem_cons_zero]); go_simp; (try (rw [if_neg (by (try simp only [ByteArray.size_append]); omega)])); try (with_reducible rfl); done)))
                try simp only [Act.put, List.getElem_toArray, List.getElem_cons_succ, List.getElem_cons_zero, List.setIfInBounds_toArray, List.set_cons_zero, List.set_cons_succ]
                (refine wpAnyH_take (i := 8) (v := ?_) rfl (by kernel_rfl) (by kernel_rfl) (by kernel_rfl) (fun _ _ _ h => h) (Or.inl ⟨by rfl, ?_⟩) (by assumption) ?_; rotate_left 1; (focus (intro wz hz; (try dsimp only at hz); (try simp only [List.getElem_toArray, List.getElem_cons_succ, List.getElem_cons_zero]); go_simp; (try (rw [if_neg (by (try simp only [ByteArray.size_append]); omega)])); try (with_reducible rfl); done)))
                try simp only [Act.put, List.getElem_toArray, List.getElem_cons_succ, List.getElem_cons_zero, List.setIfInBounds_toArray, List.set_cons_zero, List.set_cons_succ]
                (refine wpAnyH_take (i := 9) (v := ?_) rfl (by kernel_rfl) (by kernel_rfl) (by kernel_rfl) (fun _ _ _ h => h) (Or.inl ⟨by rfl, ?_⟩) (by assumption) ?_; rotate_left 1; (focus (intro wz hz; (try dsimp only at hz); (try simp only [List.getElem_toArray, List.getElem_cons_succ, List.getElem_cons_zero]); go_simp; (try (rw [if_neg (by (try simp only [ByteArray.size_append]); omega)])); try (with_reducible rfl); done)))
                try simp only [Act.put, List.getElem_toArray, List.getElem_cons_succ, List.getElem_cons_zero, List.setIfInBounds_toArray, List.set_cons_zero, List.set_cons_succ]
                (refine wpAnyH_ready (rs := [10]) (by kernel_rfl) (by simp) ?_; refine AllReadyH.cons rfl (fun K hK => ?_) AllReadyH.nil; (try simp only [List.getElem_toArray, List.getElem_cons_succ, List.getElem_cons_zero]); skip; go_simp; refine hK.out _ _ (hS.out _ (by (repeat (first | (with_reducible exact Below.refl _ _) | ((with_reducible refine below_alloc ?_ ?_ _); · (first | omega | (simp; done) | (simp; omega))) | ((with_reducible refine below_setCell ?_ ?_ _); · (first | omega | (simp; done) | (simp; omega))) | (with_reducible refine Below.drew ?_) | (with_reducible refine below_drewN ?_ _) | ((with_reducible refine below_call (by assumption) ?_ ?_); · (first | omega | (simp; done) | (simp; omega))))))) (fun hHeld => ?_); clear hK K)
                try simp only [Act.put, List.getElem_toArray, List.getElem_cons_succ, List.getElem_cons_zero, List.setIfInBounds_toArray, List.set_cons_zero, List.set_cons_succ]
                (refine wpAnyH_ready (rs := [11]) (by kernel_rfl) (by simp) ?_; refine AllReadyH.cons rfl (fun K hK => ?_) AllReadyH.nil; (try simp only [List.getElem_toArray, List.getElem_cons_succ, List.getElem_cons_zero]); skip; go_simp; refine hK.out _ _ (hS.out _ (by (repeat (first | (with_reducible exact Below.refl _ _) | ((with_reducible refine below_alloc ?_ ?_ _); · (first | omega | (simp; done) | (simp; omega))) | ((with_reducible refine below_setCell ?_ ?_ _); · (first | omega | (simp; done) | (simp; omega))) | (with_reducible refine Below.drew ?_) | (with_reducible refine below_drewN ?_ _) | ((with_reducible refine below_call (by assumption) ?_ ?_); · (first | omega | (simp; done) | (simp; omega))))))) (fun hHeld => ?_); clear hK K)
                try simp only [Act.put, List.getElem_toArray, List.getElem_cons_succ, List.getElem_cons_zero, List.setIfInBounds_toArray, List.set_cons_zero, List.set_cons_succ]
                (refine wpAnyH_take (i := 12) (v := ?_) rfl (by kernel_rfl) (by kernel_rfl) (by kernel_rfl) (fun _ _ _ h => h) (Or.inl ⟨by rfl, ?_⟩) (by assumption) ?_; rotate_left 1; (focus (intro wz hz; (try dsimp only at hz); (try simp only [List.getElem_toArray, List.getElem_cons_succ, List.getElem_cons_zero]); go_simp; (try (rw [if_neg (by (try simp only [ByteArray.size_append]); omega)])); try (with_reducible rfl); done)))
                try simp only [Act.put, List.getElem_toArray, List.getElem_cons_succ, List.getElem_cons_zero, List.setIfInBounds_toArray, List.set_cons_zero, List.set_cons_succ]
                refine wpAnyH_done (by kernel_rfl) ?_ _
                go_wp2_with fail; go_meet; first | exact ⟨_, _, rfl, rfl, boxX_1 (w4 := w4) ho5 (Nat.le_refl _) hT6 _ _ _⟩ | exact ⟨_, _, rfl, rfl, boxX_2 (w4 := w4) ho5 (Nat.le_of_eq (by simp)) hT6 RW _ _⟩
              · ((try simp only [List.getElem_toArray, List.getElem_cons_succ, List.getElem_cons_zero]); skip; go_simp; refine hK.out _ _ (hS.out _ (by (repeat (first | (with_reducible exact Below.refl _ _) | ((with_reducible refine below_alloc ?_ ?_ _); · (first | omega | (simp; done) | (simp; omega))) | ((with_reducible refine below_setCell ?_ ?_ _); · (first | omega | (simp; done) | (simp; omega))) | (with_reducible refine Below.drew ?_) | (with_reducible refine below_drewN ?_ _) | ((with_reducible refine below_call (by assumption) ?_ ?_); · (first | omega | (simp; done) | (simp; omega))))))) (fun hHeld => ?_); clear hK K)
                try simp only [Act.put, List.getElem_toArray, List.getElem_cons_succ, List.getElem_cons_zero, List.setIfInBounds_toArray, List.set_cons_zero, List.set_cons_succ]
                (refine wpAnyH_ready (rs := [6]) (by kernel_rfl) (by simp) ?_; refine AllReadyH.cons rfl (fun K hK => ?_) AllReadyH.nil; (try simp only [List.getElem_toArray, List.getElem_cons_succ, List.getElem_cons_zero]); go_simp; go_at_call 11; refine (cdo.out _ (by (repeat (first | (with_reducible exact Below.refl _ _) | ((with_reducible refine below_alloc ?_ ?_ _); · (first | omega | (simp; done) | (simp; omega))) | ((with_reducible refine below_setCell ?_ ?_ _); · (first | omega | (simp; done) | (simp; omega))) | (with_reducible refine Below.drew ?_) | (with_reducible refine below_drewN ?_ _) | ((with_reducible refine below_call (by assumption) ?_ ?_); · (first | omega | (simp; done) | (simp; omega))))))).mono ?_; rintro e wn6 ⟨v5, rfl, ho5, hbn6⟩; have hT6 : Below w4.heap.size w4 wn6 := (by (repeat (first | (with_reducible exact Below.refl _ _) | ((with_reducible refine below_alloc ?_ ?_ _); · (first | omega | (simp; done) | (simp; omega))) | ((with_reducible refine below_setCell ?_ ?_ _); · (first | omega | (simp; done) | (simp; omega))) | (with_reducible refine Below.drew ?_) | (with_reducible refine below_drewN ?_ _) | ((with_reducible refine below_call (by assumption) ?_ ?_); · (first | omega | (simp; done) | (simp; omega)))))); have z6 := hT6.size; obtain ⟨p5, c5, rfl⟩ := ho5.form; (try (have RW : Rw3 wn6 w4.heap.size 0 0 (.slice none 0 0) := rw3_new hbn6; obtain ⟨⟨r0, r1, r2⟩, fr0, fr1, fr2⟩ := And.intro RW.1 RW.2)); (try (go_wp2_with fail)); refine hK.out _ _ (hS.out _ (by assumption)) (fun hHeld => ?_); clear hK K)
                try simp only [Act.put, List.getElem_toArray, List.getElem_cons_succ, List.getElem_cons_zero, List.setIfInBounds_toArray, List.set_cons_zero, List.set_cons_succ]
                (refine wpAnyH_take (i := 7) (v := ?_) rfl (by kernel_rfl) (by kernel_rfl) (by kernel_rfl) (fun _ _ _ h => h) (Or.inl ⟨by rfl, ?_⟩) (by assumption) ?_; rotate_left 1; (focus (intro wz hz; (try dsimp only at hz); (try simp only [List.getElem_toArray, List.getElem_cons_succ, List.getElem_cons_zero]); go_simp; (try (rw [if_neg (by (try simp only [ByteArray.size_append]); omega)])); try (with_reducible rfl); done)))
                try simp only [Act.put, List.getElem_toArray, List.getElem_cons_succ, List.getElem_cons_zero, List.setIfInBounds_toArray, List.set_cons_zero, List.set_cons_succ]
                (refine wpAnyH_take (i := 8) (v := ?_) rfl (by kernel_rfl) (by kernel_rfl) (by kernel_rfl) (fun _ _ _ h => h) (Or.inl ⟨by rfl, ?_⟩) (by assumption) ?_; rotate_left 1; (focus (intro wz hz; (try dsimp only at hz); (try simp only [List.getElem_toArray, List.getElem_cons_succ, List.getElem_cons_zero]); go_simp; (try (rw [if_neg (by (try simp only [ByteArray.size_append]); omega)])); try (with_reducible rfl); done)))
                try simp only [Act.put, List.getElem_toArray, List.getElem_cons_succ, List.getElem_cons_zero, List.setIfInBounds_toArray, List.set_cons_zero, List.set_cons_succ]
                (refine wpAnyH_take (i := 9) (v := ?_) rfl (by kernel_rfl) (by kernel_rfl) (by kernel_rfl) (fun _ _ _ h => h) (Or.inl ⟨by rfl, ?_⟩) (by assumption) ?_; rotate_left 1; (focus (intro wz hz; (try dsimp only at hz); (try simp only [List.getElem_toArray, List.getElem_cons_succ, List.getElem_cons_zero]); go_simp; (try (rw [if_neg (by (try simp only [ByteArray.size_append]); omega)])); try (with_reducible rfl); done)))
                try simp only [Act.put, List.getElem_toArray, List.getElem_cons_succ, List.getElem_cons_zero, List.setIfInBounds_toArray, List.set_cons_zero, List.set_cons_succ]
                (refine wpAnyH_ready (rs := [11]) (by kernel_rfl) (by simp) ?_; refine AllReadyH.cons rfl (fun K hK => ?_) AllReadyH.nil; (try simp only [List.getElem_toArray, List.getElem_cons_succ, List.getElem_cons_zero]); skip; go_simp; refine hK.out _ _ (hS.out _ (by (repeat (first | (with_reducible exact Below.refl _ _) | ((with_reducible refine below_alloc ?_ ?_ _); · (first | omega | (simp; done) | (simp; omega))) | ((with_reducible refine below_setCell ?_ ?_ _); · (first | omega | (simp; done) | (simp; omega))) | (with_reducible refine Below.drew ?_) | (with_reducible refine below_drewN ?_ _) | ((with_reducible refine below_call (by assumption) ?_ ?_); · (first | omega | (simp; done) | (simp; omega))))))) (fun hHeld => ?_); clear hK K)
                try simp only [Act.put, List.getElem_toArray, List.getElem_cons_succ, List.getElem_cons_zero, List.setIfInBounds_toArray, List.set_cons_zero, List.set_cons_succ]
                (refine wpAnyH_take (i := 12) (v := ?_) rfl (by kernel_rfl) (by kernel_rfl) (by kernel_rfl) (fun _ _ _ h => h) (Or.inl ⟨by rfl, ?_⟩) (by assumption) ?_; rotate_left 1; (focus (intro wz hz; (try dsimp only at hz); (try simp only [List.getElem_toArray, List.getElem_cons_succ, List.getElem_cons_zero]); go_simp; (try (rw [if_neg (by (try simp only [ByteArray.size_append]); omega)])); try (with_reducible rfl); done)))
                try simp only [Act.put, List.getElem_toArray, List.getElem_cons_succ, List.getElem_cons_zero, List.setIfInBounds_toArray, List.set_cons_zero, List.set_cons_succ]
                refine wpAnyH_done (by kernel_rfl) ?_ _
                go_wp2_with fail; go_meet; first | exact ⟨_, _, rfl, rfl, boxX_1 (w4 := w4) ho5 (Nat.le_refl _) hT6 _ _ _⟩ | exact ⟨_, _, rfl, rfl, boxX_2 (w4 := w4) ho5 (Nat.le_of_eq (by simp)) hT6 RW _ _⟩
            case rest =>
              obtain ⟨qx, v5, rfl, rfl, ⟨y0, y1, y2⟩, hI, hge, hb⟩ := hcut
              have hT5 := Lib.hid (hT4.out.call hb)
              obtain ⟨⟨m0, m1, m2⟩, fz0, fz1, fz2⟩ := And.intro hT5.out.r.1 hT5.out.r.2
              have HI := Lib.hid (And.intro hI (show delW l0 i0 ≠ [] → ∀ q, v5.ownBlock = some q → ¬ C4 q ∧ q ≠ bm from fun _ q hq => by
                have h1 := hge q hq
                refine ⟨fun hc => ?_, fun e => ?_⟩
                · have := hT4.out.a.lt q hc; omega
                · have := hT4.out.r.1.lt; omega))
              obtain ⟨p5, c5, rfl⟩ : ∃ p5 c5, v5 = .slice p5 (delW l0 i0).length c5 := by
                obtain ⟨p5, c5, e, _⟩ := hI.2
                exact ⟨p5, c5, e⟩
              have hbb : ((isW l0 i0) != (isW l0 i0)) = false := by simp
              clear hI hge hb hT4
              go_wp2
              go_meet
              exact Lib.hid ⟨C4, delW l0 i0, _, nw, hT5.out.put nw (delW l0 i0) _ HI.out.1 HI.out.2, Nat.le_trans (delW_len _ _) (by omega)⟩
          · by_cases hq3 : q = 3
            · as_aux_lemma =>
              subst hq3
              clear hqb hq2
              have hnow := Lib.hid (show 0 ≤ nw ∧ nw ≤ 1099511627776 from hGood.out.t)
              have hhb := hldW_bd i1
              have chd := Lib.hid (fun W => held_any nw i1 W hnow.out)
              have hS0 := Lib.hid (fun W (hb : Below wc.heap.size wc W) => (show W.cell? ⟨bm, 1, none⟩ = some (.int .i64 nw) ∧ W.cell? ⟨bb, off + k * 3 + 2, none⟩ = some (.int .i64 i1) from ⟨(hT0.out.r.call hb).1.2.1, (HCL.out _ (hT0.out.B.trans (hb.mono hT0.out.B.size))).2.2⟩))
              have hTd : Below wc.heap.size wc wc.drew := Below.drew (Below.refl _ _)
              obtain ⟨aT, haT⟩ : ∃ aT, nw + hldW i1 = aT := ⟨_, rfl⟩
              rw [haT] at chd
              have haI := Lib.hid (show I64 aT by unfold I64; have := hnow.out; omega)
              clear haT hhb d0 d1 d2
              go_upto_region 24 with fail
              refine wp_region_held_drew (S := fun W => W.cell? ⟨bm, 1, none⟩ = some (.int .i64 nw) ∧ W.cell? ⟨bb, off + k * 3 + 2, none⟩ = some (.int .i64 i1)) (by kernel_rfl) (hS0.out _ (by assumption)) (fun hHeld => ?_)
              (refine wpAnyH_take (i := 0) (v := ?_) rfl (by kernel_rfl) (by kernel_rfl) (by kernel_rfl) (fun _ _ _ h => h) (Or.inl ⟨by rfl, ?_⟩) (by assumption) ?_; rotate_left 1; (focus (intro wz hz; (try dsimp only at hz); (try simp only [List.getElem_toArray, List.getElem_cons_succ, List.getElem_cons_zero]); go_simp; (try (rw [if_neg (by (try simp only [ByteArray.size_append]); omega)])); try (with_reducible rfl); done)))
              try simp only [Act.put, List.getElem_toArray, List.getElem_cons_succ, List.getElem_cons_zero, List.setIfInBounds_toArray, List.set_cons_zero, List.set_cons_succ]
              (refine wpAnyH_take (i := 2) (v := ?_) rfl (by kernel_rfl) (by kernel_rfl) (by kernel_rfl) (fun _ _ _ h => h) (Or.inl ⟨by rfl, ?_⟩) (by assumption) ?_; rotate_left 1; (focus (intro wz hz; (try dsimp only at hz); (try simp only [List.getElem_toArray, List.getElem_cons_succ, List.getElem_cons_zero]); go_simp; (try (rw [if_neg (by (try simp only [ByteArray.size_append]); omega)])); try (with_reducible rfl); done)))
              try simp only [Act.put, List.getElem_toArray, List.getElem_cons_succ, List.getElem_cons_zero, List.setIfInBounds_toArray, List.set_cons_zero, List.set_cons_succ]
              (refine wpAnyH_take (i := 3) (v := ?_) rfl (by kernel_rfl) (by kernel_rfl) (by kernel_rfl) (fun _ _ _ h => h) (Or.inl ⟨by rfl, ?_⟩) (by assumption) ?_; rotate_left 1; (focus (intro wz hz; (try dsimp only at hz); (try simp only [List.getElem_toArray, List.getElem_cons_succ, List.getElem_cons_zero]); go_simp; (try (rw [if_neg (by (try simp only [ByteArray.size_append]); omega)])); try (with_reducible rfl); done)))
              try simp only [Act.put, List.getElem_toArray, List.getElem_cons_succ, List.getElem_cons_zero, List.setIfInBounds_toArray, List.set_cons_zero, List.set_cons_succ]
              (refine wpAnyH_take (i := 1) (v := ?_) rfl (by kernel_rfl) (by kernel_rfl) (by kernel_rfl) (fun _ _ _ h => h) (Or.inl ⟨by rfl, ?_⟩) (by assumption) ?_; rotate_left 1; (focus (intro wz hz; (try dsimp only at hz); (try simp only [List.getElem_toArray, List.getElem_cons_succ, List.getElem_cons_zero]); go_simp; (try (rw [if_neg (by (try simp only [ByteArray.size_append]); omega)])); try (with_reducible rfl); done)))
              try simp only [Act.put, List.getElem_toArray, List.getElem_cons_succ, List.getElem_cons_zero, List.setIfInBounds_toArray, List.set_cons_zero, List.set_cons_succ]
              (refine wpAnyH_take (i := 4) (v := ?_) rfl (by kernel_rfl) (by kernel_rfl) (by kernel_rfl) (fun _ _ _ h => h) (Or.inl ⟨by rfl, ?_⟩) (by assumption) ?_; rotate_left 1; (focus (intro wz hz; (try dsimp only at hz); (try simp only [List.getElem_toArray, List.getElem_cons_succ, List.getElem_cons_zero]); go_simp; (try (rw [if_neg (by (try simp only [ByteArray.size_append]); omega)])); try (with_reducible rfl); done)))
              try simp only [Act.put, List.getElem_toArray, List.getElem_cons_succ, List.getElem_cons_zero, List.setIfInBounds_toArray, List.set_cons_zero, List.set_cons_succ]
              (refine wpAnyH_take (i := 5) (v := ?_) rfl (by kernel_rfl) (by kernel_rfl) (by kernel_rfl) (fun _ _ _ h => h) (Or.inl ⟨by rfl, ?_⟩) (by assumption) ?_; rotate_left 1; (focus (intro wz hz; (try dsimp only at hz); (try simp only [List.getElem_toArray, List.getElem_cons_succ, List.getElem_cons_zero]); go_simp; (try (rw [if_neg (by (try simp only [ByteArray.size_append]); omega)])); try (with_reducible rfl); done)))
              try simp only [Act.put, List.getElem_toArray, List.getElem_cons_succ, List.getElem_cons_zero, List.setIfInBounds_toArray, List.set_cons_zero, List.set_cons_succ]
              (refine wpAnyH_take (i := 6) (v := ?_) rfl (by kernel_rfl) (by kernel_rfl) (by kernel_rfl) (fun _ _ _ h => h) (Or.inl ⟨by rfl, ?_⟩) (by assumption) ?_; rotate_left 1; (focus (intro wz hz; (try dsimp only at hz); (try simp only [List.getElem_toArray, List.getElem_cons_succ, List.getElem_cons_zero]); go_simp; (try (rw [if_neg (by (try simp only [ByteArray.size_append]); omega)])); try (with_reducible rfl); done)))
              try simp only [Act.put, List.getElem_toArray, List.getElem_cons_succ, List.getElem_cons_zero, List.setIfInBounds_toArray, List.set_cons_zero, List.set_cons_succ]
              (refine wpAnyH_ready (rs := [7]) (by kernel_rfl) (by simp) ?_; refine AllReadyH.cons rfl (fun K hK => ?_) AllReadyH.nil; (try simp only [List.getElem_toArray, List.getElem_cons_succ, List.getElem_cons_zero]); go_simp; go_at_call 12; refine (chd.out _).mono ?_; rintro e wn7 ⟨rfl, rfl⟩; (try (go_wp2_with fail)); refine hK.out _ _ (hS0.out _ (by assumption)) (fun hHeld => ?_); clear hK K)
              try simp only [Act.put, List.getElem_toArray, List.getElem_cons_succ, List.getElem_cons_zero, List.setIfInBounds_toArray, List.set_cons_zero, List.set_cons_succ]
              (refine wpAnyH_take (i := 8) (v := ?_) rfl (by kernel_rfl) (by kernel_rfl) (by kernel_rfl) (fun _ _ _ h => h) (Or.inl ⟨by rfl, ?_⟩) (by assumption) ?_; rotate_left 1; (focus (intro wz hz; (try dsimp only at hz); (try simp only [List.getElem_toArray, List.getElem_cons_succ, List.getElem_cons_zero]); go_simp; (try (rw [if_neg (by (try simp only [ByteArray.size_append]); omega)])); try (with_reducible rfl); done)))
              try simp only [Act.put, List.getElem_toArray, List.getElem_cons_succ, List.getElem_cons_zero, List.setIfInBounds_toArray, List.set_cons_zero, List.set_cons_succ]
              refine wpAnyH_done (by kernel_rfl) ?_ _
              clear hHeld hS0 chd
              have hT1 := Lib.hid (hT0.out.call hTd)
              clear hT0 hTd
              have cst := Lib.hid (wgo_any C g N nw l0 _ hT1.out.a aT haI.out)
              go_wp2_with fail
              refine cst.out.mono ?_; rintro e w4 ⟨o4, rfl, R4, hd4⟩
              obtain ⟨C4, T4⟩ := hT1.out.did hd4
              have HA := Lib.hid (go_app l0 nw aT)
              have hT4 := Lib.hid T4
              have HLN := Lib.hid (show (goW l0 nw aT).length ≤ k + 1 from Nat.le_trans (go_len _ _ _).2 (by omega))
              have hlo := (go_len l0 nw aT).1
              have cgo := Lib.hid (fun W (hb : Below w4.heap.size w4 W) => refgo_any N nw aT vv l0 W (hT4.out.i.call hb) (by omega))
              generalize goN nw aT = nn at hT4 cgo
              generalize goW l0 nw aT = lw at hT4 HA HLN cgo
              generalize goL l0 nw aT = ot at R4 HA cgo hlo
              have HR4 := Lib.hid (R4.reads duC_len)
              clear hd4 cst T4 hT1 R4
              go_wp2_with fail
              refine (due_any o4 ot _ HR4.out (by omega)).mono ?_; rintro e w5 ⟨v5, rfl, R5, hb5⟩
              have hT5 := Lib.hid (hT4.out.call hb5)
              obtain ⟨⟨m0, m1, m2⟩, fz0, fz1, fz2⟩ := And.intro hT5.out.r.1 hT5.out.r.2
              have F5 := Lib.hid (own_apart (w4 := w4) (C := C4) (b := bm) R5 (Nat.le_refl _) hT4.out.a.lt hT4.out.r.1.lt)
              have HR5 := Lib.hid (own_isL R5)
              have hb5' := Lib.hid hb5
              clear R5 hb5
              go_wp2_with fail
              refine (cgo.out _ hb5'.out).mono ?_; rintro e w6 ⟨v6, o6, rfl, hI6, hO6, ⟨hs1, hs2⟩, hb6⟩
              have hT6 := Lib.hid (hT5.out.call hb6)
              clear m0 m1 m2 fz0 fz1 fz2
              obtain ⟨⟨m0, m1, m2⟩, fz0, fz1, fz2⟩ := And.intro hT6.out.r.1 hT6.out.r.2
              have hne1 : lw ≠ [] → l0 ≠ [] := fun h e => by have := HA.out; rw [e] at this; exact h (List.append_eq_nil_iff.1 this).2
              have hne2 : ot ≠ [] → l0 ≠ [] := fun h e => by have := HA.out; rw [e] at this; exact h (List.append_eq_nil_iff.1 this).1
              have HI6 := Lib.hid (And.intro hI6 (show lw ≠ [] → ∀ q, v6.ownBlock = some q → ¬ C4 q ∧ q ≠ bm from fun hne q hq => hT4.out.f (hne1 hne) q (hs1 q hq)))
              have HO6 := Lib.hid (And.intro hO6 (show ot ≠ [] → ∀ q, o6.ownBlock = some q → ¬ (fun q => q = bm) q from fun hne q hq => (hT4.out.f (hne2 hne) q (hs2 q hq)).2))
              have HR6 := Lib.hid (HR5.out.call hb6)
              obtain ⟨p6, c6, rfl⟩ : ∃ p6 c6, v6 = .slice p6 lw.length c6 := by
                obtain ⟨p6, c6, e, _⟩ := hI6.2
                exact ⟨p6, c6, e⟩
              have hbl : bm < w6.heap.size := hT6.out.r.1.lt
              have hbl2 : bm ≠ w6.heap.size := by omega
              have hbl3 : w6.heap.size ≠ bm := by omega
              clear hI6 hO6 hs1 hs2 hb6 hne1 hne2 hT4 hT5 cgo HR4 HR5 hb5'
              go_upto_region 28 with fail
              refine gen_world (F := fun W => On16 w W C4 g N nn lw bm nn lw (.slice p6 lw.length c6) ∧ IsL W v5 ot ∧ IsL W o6 ot) ?_ (fun w7 hF => ?_)
              · have hbut : ButC (fun q => q = bm) w6 (((w6.setCell ⟨bm, 0, none⟩ (.int .i64 N)).setCell ⟨bm, 1, none⟩ (.int .i64 nn)).setCell ⟨bm, 2, none⟩ (.slice p6 lw.length c6)) := but_set (but_set (but_set (ButC.refl _ _) _ _) _ _) _ _
                have hal : ∀ (W : World) (o : Obj), Below W.heap.size W (W.alloc o) := fun W o => below_alloc (Nat.le_refl _) (Below.refl _ _) o
                exact ⟨(hT6.out.put nn lw _ HI6.out.1 HI6.out.2).call (hal _ _), (HR6.out.but (fun hne q hq => (F5.out hne q hq).2) hbut).call (hal _ _), (HO6.out.1.but HO6.out.2 hbut).call (hal _ _)⟩
              obtain ⟨hT7, hR7, hO7⟩ := hF
              have HT7 := Lib.hid hT7
              have hdd : decide (ot = ot) = true := decide_eq_true rfl
              clear hT7 m0 m1 m2 fz0 fz1 fz2 HI6 HO6 HR6 F5 hT6 hbl hbl2 hbl3
              have csd := Lib.hid (samedue_any v5 o6 ot ot w7 hR7.1 hO7.1 (by omega) (by omega))
              rw [hdd] at csd
              clear hR7 hO7 hdd
              go_wp2_with fail
              refine csd.out.mono ?_; rintro e w8 ⟨rfl, hb8⟩
              have HT8 := Lib.hid (HT7.out.call hb8)
              clear hb8 HT7 csd
              go_wp2
              go_meet
              exact Lib.hid ⟨C4, lw, _, nn, HT8.out, HLN.out⟩
            · as_aux_lemma =>
              have hq2' : (q == 2) = false := by simp; omega
              have hq3' : (q == 3) = false := by simp; omega
              clear hqb hq2 hq3
              have hnow := Lib.hid (show 0 ≤ nw ∧ nw ≤ 1099511627776 from hGood.out.t)
              have hhb := hldW_bd i1
              have chd := Lib.hid (fun W => held_any nw i1 W hnow.out)
              have hS0 := Lib.hid (fun W (hb : Below wc.heap.size wc W) => (show W.cell? ⟨bm, 1, none⟩ = some (.int .i64 nw) ∧ W.cell? ⟨bb, off + k * 3 + 2, none⟩ = some (.int .i64 i1) from ⟨(hT0.out.r.call hb).1.2.1, (HCL.out _ (hT0.out.B.trans (hb.mono hT0.out.B.size))).2.2⟩))
              have hTd : Below wc.heap.size wc wc.drew := Below.drew (Below.refl _ _)
              obtain ⟨aT, haT⟩ : ∃ aT, nw + hldW i1 = aT := ⟨_, rfl⟩
              rw [haT] at chd
              have haI := Lib.hid (show I64 aT by unfold I64; have := hnow.out; omega)
              clear haT hhb d0 d1 d2
              go_upto_region 11 with fail
              refine wp_region_held_drew (S := fun W => W.cell? ⟨bm, 1, none⟩ = some (.int .i64 nw) ∧ W.cell? ⟨bb, off + k * 3 + 2, none⟩ = some (.int .i64 i1)) (by kernel_rfl) (hS0.out _ (by assumption)) (fun hHeld => ?_)
              (refine wpAnyH_take (i := 0) (v := ?_) rfl (by kernel_rfl) (by kernel_rfl) (by kernel_rfl) (fun _ _ _ h => h) (Or.inl ⟨by rfl, ?_⟩) (by assumption) ?_; rotate_left 1; (focus (intro wz hz; (try dsimp only at hz); (try simp only [List.getElem_toArray, List.getElem_cons_succ, List.getElem_cons_zero]); go_simp; (try (rw [if_neg (by (try simp only [ByteArray.size_append]); omega)])); try (with_reducible rfl); done)))
              try simp only [Act.put, List.getElem_toArray, List.getElem_cons_succ, List.getElem_cons_zero, List.setIfInBounds_toArray, List.set_cons_zero, List.set_cons_succ]
              (refine wpAnyH_take (i := 2) (v := ?_) rfl (by kernel_rfl) (by kernel_rfl) (by kernel_rfl) (fun _ _ _ h => h) (Or.inl ⟨by rfl, ?_⟩) (by assumption) ?_; rotate_left 1; (focus (intro wz hz; (try dsimp only at hz); (try simp only [List.getElem_toArray, List.getElem_cons_succ, List.getElem_cons_zero]); go_simp; (try (rw [if_neg (by (try simp only [ByteArray.size_append]); omega)])); try (with_reducible rfl); done)))
              try simp only [Act.put, List.getElem_toArray, List.getElem_cons_succ, List.getElem_cons_zero, List.setIfInBounds_toArray, List.set_cons_zero, List.set_cons_succ]
              (refine wpAnyH_take (i := 3) (v := ?_) rfl (by kernel_rfl) (by kernel_rfl) (by kernel_rfl) (fun _ _ _ h => h) (Or.inl ⟨by rfl, ?_⟩) (by assumption) ?_; rotate_left 1; (focus (intro wz hz; (try dsimp only at hz); (try simp only [List.getElem_toArray, List.getElem_cons_succ, List.getElem_cons_zero]); go_simp; (try (rw [if_neg (by (try simp only [ByteArray.size_append]); omega)])); try (with_reducible rfl); done)))
              try simp only [Act.put, List.getElem_toArray, List.getElem_cons_succ, List.getElem_cons_zero, List.setIfInBounds_toArray, List.set_cons_zero, List.set_cons_succ]
              (refine wpAnyH_take (i := 1) (v := ?_) rfl (by kernel_rfl) (by kernel_rfl) (by kernel_rfl) (fun _ _ _ h => h) (Or.inl ⟨by rfl, ?_⟩) (by assumption) ?_; rotate_left 1; (focus (intro wz hz; (try dsimp only at hz); (try simp only [List.getElem_toArray, List.getElem_cons_succ, List.getElem_cons_zero]); go_simp; (try (rw [if_neg (by (try simp only [ByteArray.size_append]); omega)])); try (with_reducible rfl); done)))
              try simp only [Act.put, List.getElem_toArray, List.getElem_cons_succ, List.getElem_cons_zero, List.setIfInBounds_toArray, List.set_cons_zero, List.set_cons_succ]
              (refine wpAnyH_take (i := 4) (v := ?_) rfl (by kernel_rfl) (by kernel_rfl) (by kernel_rfl) (fun _ _ _ h => h) (Or.inl ⟨by rfl, ?_⟩) (by assumption) ?_; rotate_left 1; (focus (intro wz hz; (try dsimp only at hz); (try simp only [List.getElem_toArray, List.getElem_cons_succ, List.getElem_cons_zero]); go_simp; (try (rw [if_neg (by (try simp only [ByteArray.size_append]); omega)])); try (with_reducible rfl); done)))
              try simp only [Act.put, List.getElem_toArray, List.getElem_cons_succ, List.getElem_cons_zero, List.setIfInBounds_toArray, List.set_cons_zero, List.set_cons_succ]
              (refine wpAnyH_take (i := 5) (v := ?_) rfl (by kernel_rfl) (by kernel_rfl) (by kernel_rfl) (fun _ _ _ h => h) (Or.inl ⟨by rfl, ?_⟩) (by assumption) ?_; rotate_left 1; (focus (intro wz hz; (try dsimp only at hz); (try simp only [List.getElem_toArray, List.getElem_cons_succ, List.getElem_cons_zero]); go_simp; (try (rw [if_neg (by (try simp only [ByteArray.size_append]); omega)])); try (with_reducible rfl); done)))
              try simp only [Act.put, List.getElem_toArray, List.getElem_cons_succ, List.getElem_cons_zero, List.setIfInBounds_toArray, List.set_cons_zero, List.set_cons_succ]
              (refine wpAnyH_take (i := 6) (v := ?_) rfl (by kernel_rfl) (by kernel_rfl) (by kernel_rfl) (fun _ _ _ h => h) (Or.inl ⟨by rfl, ?_⟩) (by assumption) ?_; rotate_left 1; (focus (intro wz hz; (try dsimp only at hz); (try simp only [List.getElem_toArray, List.getElem_cons_succ, List.getElem_cons_zero]); go_simp; (try (rw [if_neg (by (try simp only [ByteArray.size_append]); omega)])); try (with_reducible rfl); done)))
              try simp only [Act.put, List.getElem_toArray, List.getElem_cons_succ, List.getElem_cons_zero, List.setIfInBounds_toArray, List.set_cons_zero, List.set_cons_succ]
              (refine wpAnyH_ready (rs := [7]) (by kernel_rfl) (by simp) ?_; refine AllReadyH.cons rfl (fun K hK => ?_) AllReadyH.nil; (try simp only [List.getElem_toArray, List.getElem_cons_succ, List.getElem_cons_zero]); go_simp; go_at_call 12; refine (chd.out _).mono ?_; rintro e wn7 ⟨rfl, rfl⟩; (try (go_wp2_with fail)); refine hK.out _ _ (hS0.out _ (by assumption)) (fun hHeld => ?_); clear hK K)
              try simp only [Act.put, List.getElem_toArray, List.getElem_cons_succ, List.getElem_cons_zero, List.setIfInBounds_toArray, List.set_cons_zero, List.set_cons_succ]
              (refine wpAnyH_take (i := 8) (v := ?_) rfl (by kernel_rfl) (by kernel_rfl) (by kernel_rfl) (fun _ _ _ h => h) (Or.inl ⟨by rfl, ?_⟩) (by assumption) ?_; rotate_left 1; (focus (intro wz hz; (try dsimp only at hz); (try simp only [List.getElem_toArray, List.getElem_cons_succ, List.getElem_cons_zero]); go_simp; (try (rw [if_neg (by (try simp only [ByteArray.size_append]); omega)])); try (with_reducible rfl); done)))
              try simp only [Act.put, List.getElem_toArray, List.getElem_cons_succ, List.getElem_cons_zero, List.setIfInBounds_toArray, List.set_cons_zero, List.set_cons_succ]
              refine wpAnyH_done (by kernel_rfl) ?_ _
              clear hHeld hS0 chd
              have hT1 := Lib.hid (hT0.out.call hTd)
              obtain ⟨d0, d1, d2⟩ := HCL.out _ hT1.out.B
              clear hT0 hTd
              have cst := Lib.hid (wset_any C g N nw l0 _ hT1.out.a i0 aT HOK.out.1 haI.out)
              go_wp2_with fail
              refine cst.out.mono ?_; rintro e w4 ⟨rfl, hd4⟩
              obtain ⟨C4, T4⟩ := hT1.out.did hd4
              have hT4 := Lib.hid T4
              clear d0 d1 d2
              obtain ⟨d0, d1, d2⟩ := HCL.out _ T4.B
              clear hd4 cst T4 hT1
              go_upto_region 13 with fail
              have cdo : Hid (∀ W, Below w4.heap.size w4 W → Calls Try.prog 18 #[whV N nw vv, .int .i64 i0, .int .i64 aT] W fun e w' => ∃ p5 c5, e = .returned (.tuple #[whV N nw (.slice p5 (setW l0 nw i0 aT).length c5), .int .i64 (setE nw i0 aT)]) ∧ (IsL w' (.slice p5 (setW l0 nw i0 aT).length c5) (setW l0 nw i0 aT) ∧ (setW l0 nw i0 aT ≠ [] → ∀ q, (Value.slice p5 (setW l0 nw i0 aT).length c5).ownBlock = some q → ¬ C4 q ∧ q ≠ bm) ∧ (setW l0 nw i0 aT ≠ [] → ∀ q, (Value.slice p5 (setW l0 nw i0 aT).length c5).ownBlock = some q → q < w4.heap.size ∨ W.heap.size ≤ q)) ∧ Below W.heap.size W w') := Lib.hid (fun W hb => by
                have hIW := hT4.out.i.call hb
                by_cases hcond : i0 < 0 ∨ 255 < i0 ∨ aT ≤ nw ∨ 1099511627776 < aT
                · obtain ⟨e1, e2⟩ := set_no (L := l0) hcond
                  rw [e1, e2]
                  refine (refset_no N nw i0 aT vv l0 W hIW hcond).mono ?_
                  rintro e w5 ⟨rfl, hb5⟩
                  obtain ⟨p5, c5, e5, _⟩ := hIW.2
                  refine ⟨p5, c5, by rw [e5], ⟨by rw [← e5]; exact hIW.call hb5, ?_, ?_⟩, hb5⟩
                  · rw [← e5]
                    exact hT4.out.f
                  · rw [← e5]
                    exact fun hne q hq => .inl (hT4.out.i.lt hne q hq)
                · rw [show setE nw i0 aT = 0 from if_neg hcond]
                  refine (refset_yes N nw i0 aT vv l0 W hIW (by omega) hcond).mono ?_
                  rintro e w5 ⟨v5, rfl, ho5, hb5⟩
                  obtain ⟨p5, c5, rfl⟩ := ho5.form
                  exact ⟨p5, c5, rfl, ⟨own_isL ho5, own_apart (w4 := w4) ho5 hb.size hT4.out.a.lt hT4.out.r.1.lt, fun _ q hq => .inr (own_ge ho5 q hq)⟩, hb5⟩)
              have HLN := Lib.hid (show (setW l0 nw i0 aT).length ≤ k + 1 from Nat.le_trans (setW_len _ _ _ _) (by omega))
              generalize setE nw i0 aT = E at cdo ⊢
              generalize setW l0 nw i0 aT = ls at cdo hT4 HLN ⊢
              go_cut [19, 20] (fun px bv wx => ∃ qx v', px = .pointer (some ⟨qx, 0, none⟩) ∧ bv = .int .i64 E ∧ BoxY w4 wx C4 bm qx N nw v' ls)
              case first =>
                have hS := Lib.hid (fun W (hb : Below w4.heap.size w4 W) => (show (W.cell? ⟨bm, 0, none⟩ = some (.int .i64 N) ∧ W.cell? ⟨bm, 1, none⟩ = some (.int .i64 nw) ∧ W.cell? ⟨bm, 2, none⟩ = some vv) ∧ W.cell? ⟨bb, off + k * 3 + 1, none⟩ = some (.int .i64 i0) from ⟨(hT4.out.r.call hb).1, (HCL.out _ (hT4.out.B.trans (hb.mono hT4.out.B.size))).2.1⟩))
                have hT0' : Below w4.heap.size w4 w4.drew := Below.drew (Below.refl _ _)
                clear d0 d1 d2
                refine wp_region_held_drew (S := fun W => (W.cell? ⟨bm, 0, none⟩ = some (.int .i64 N) ∧ W.cell? ⟨bm, 1, none⟩ = some (.int .i64 nw) ∧ W.cell? ⟨bm, 2, none⟩ = some vv) ∧ W.cell? ⟨bb, off + k * 3 + 1, none⟩ = some (.int .i64 i0)) (by kernel_rfl) (hS.out _ (by assumption)) (fun hHeld => ?_)
                (refine wpAnyH_take (i := 0) (v := ?_) rfl (by kernel_rfl) (by kernel_rfl) (by kernel_rfl) (fun _ _ _ h => h) (Or.inl ⟨by rfl, ?_⟩) (by assumption) ?_; rotate_left 1; (focus (intro wz hz; (try dsimp only at hz); (try simp only [List.getElem_toArray, List.getElem_cons_succ, List.getElem_cons_zero]); go_simp; (try (rw [if_neg (by (try simp only [ByteArray.size_append]); omega)])); try (with_reducible rfl); done)))
                try simp only [Act.put, List.getElem_toArray, List.getElem_cons_succ, List.getElem_cons_zero, List.setIfInBounds_toArray, List.set_cons_zero, List.set_cons_succ]
                (refine wpAnyH_take (i := 1) (v := ?_) rfl (by kernel_rfl) (by kernel_rfl) (by kernel_rfl) (fun _ _ _ h => h) (Or.inl ⟨by rfl, ?_⟩) (by assumption) ?_; rotate_left 1; (focus (intro wz hz; (try dsimp only at hz); (try simp only [List.getElem_toArray, List.getElem_cons_succ, List.getElem_cons_zero]); go_simp; (try (rw [if_neg (by (try simp only [ByteArray.size_append]); omega)])); try (with_reducible rfl); done)))
                try simp only [Act.put, List.getElem_toArray, List.getElem_cons_succ, List.getElem_cons_zero, List.setIfInBounds_toArray, List.set_cons_zero, List.set_cons_succ]
                (refine wpAnyH_take (i := 2) (v := ?_) rfl (by kernel_rfl) (by kernel_rfl) (by kernel_rfl) (fun _ _ _ h => h) (Or.inl ⟨by rfl, ?_⟩) (by assumption) ?_; rotate_left 1; (focus (intro wz hz; (try dsimp only at hz); (try simp only [List.getElem_toArray, List.getElem_cons_succ, List.getElem_cons_zero]); go_simp; (try (rw [if_neg (by (try simp only [ByteArray.size_append]); omega)])); try (with_reducible rfl); done)))
                try simp only [Act.put, List.getElem_toArray, List.getElem_cons_succ, List.getElem_cons_zero, List.setIfInBounds_toArray, List.set_cons_zero, List.set_cons_succ]
                (refine wpAnyH_take (i := 6) (v := ?_) rfl (by kernel_rfl) (by kernel_rfl) (by kernel_rfl) (fun _ _ _ h => h) (Or.inl ⟨by rfl, ?_⟩) (by assumption) ?_; rotate_left 1; (focus (intro wz hz; (try dsimp only at hz); (try simp only [List.getElem_toArray, List.getElem_cons_succ, List.getElem_cons_zero]); go_simp; (try (rw [if_neg (by (try simp only [ByteArray.size_append]); omega)])); try (with_reducible rfl); done)))
                try simp only [Act.put, List.getElem_toArray, List.getElem_cons_succ, List.getElem_cons_zero, List.setIfInBounds_toArray, List.set_cons_zero, List.set_cons_succ]
                (refine wpAnyH_take (i := 3) (v := ?_) rfl (by kernel_rfl) (by kernel_rfl) (by kernel_rfl) (fun _ _ _ h => h) (Or.inl ⟨by rfl, ?_⟩) (by assumption) ?_; rotate_left 1; (focus (intro wz hz; (try dsimp only at hz); (try simp only [List.getElem_toArray, List.getElem_cons_succ, List.getElem_cons_zero]); go_simp; (try (rw [if_neg (by (try simp only [ByteArray.size_append]); omega)])); try (with_reducible rfl); done)))
                try simp only [Act.put, List.getElem_toArray, List.getElem_cons_succ, List.getElem_cons_zero, List.setIfInBounds_toArray, List.set_cons_zero, List.set_cons_succ]
                (refine wpAnyH_take (i := 4) (v := ?_) rfl (by kernel_rfl) (by kernel_rfl) (by kernel_rfl) (fun _ _ _ h => h) (Or.inl ⟨by rfl, ?_⟩) (by assumption) ?_; rotate_left 1; (focus (intro wz hz; (try dsimp only at hz); (try simp only [List.getElem_toArray, List.getElem_cons_succ, List.getElem_cons_zero]); go_simp; (try (rw [if_neg (by (try simp only [ByteArray.size_append]); omega)])); try (with_reducible rfl); done)))
                try simp only [Act.put, List.getElem_toArray, List.getElem_cons_succ, List.getElem_cons_zero, List.setIfInBounds_toArray, List.set_cons_zero, List.set_cons_succ]
                (refine wpAnyH_take (i := 5) (v := ?_) rfl (by kernel_rfl) (by kernel_rfl) (by kernel_rfl) (fun _ _ _ h => h) (Or.inl ⟨by rfl, ?_⟩) (by assumption) ?_; rotate_left 1; (focus (intro wz hz; (try dsimp only at hz); (try simp only [List.getElem_toArray, List.getElem_cons_succ, List.getElem_cons_zero]); go_simp; (try (rw [if_neg (by (try simp only [ByteArray.size_append]); omega)])); try (with_reducible rfl); done)))
                try simp only [Act.put, List.getElem_toArray, List.getElem_cons_succ, List.getElem_cons_zero, List.setIfInBounds_toArray, List.set_cons_zero, List.set_cons_succ]
                refine wpAnyH_ready (rs := [7, 11]) (by kernel_rfl) (by simp) ?_
                refine AllReadyH.cons rfl (fun K hK => ?_) (AllReadyH.cons rfl (fun K hK => ?_) AllReadyH.nil)
                · ((try simp only [List.getElem_toArray, List.getElem_cons_succ, List.getElem_cons_zero]); go_simp; go_at_call 18; refine (cdo.out _ (by (repeat (first | (with_reducible exact Below.refl _ _) | ((with_reducible refine below_alloc ?_ ?_ _); · (first | omega | (simp; done) | (simp; omega))) | ((with_reducible refine below_setCell ?_ ?_ _); · (first | omega | (simp; done) | (simp; omega))) | (with_reducible refine Below.drew ?_) | (with_reducible refine below_drewN ?_ _) | ((with_reducible refine below_call (by assumption) ?_ ?_); · (first | omega | (simp; done) | (simp; omega))))))).mono ?_; rintro e wn7 ⟨p5, c5, rfl, ⟨hI6, hf6, hq6⟩, hbn7⟩; have hT6 : Below w4.heap.size w4 wn7 := (by (repeat (first | (with_reducible exact Below.refl _ _) | ((with_reducible refine below_alloc ?_ ?_ _); · (first | omega | (simp; done) | (simp; omega))) | ((with_reducible refine below_setCell ?_ ?_ _); · (first | omega | (simp; done) | (simp; omega))) | (with_reducible refine Below.drew ?_) | (with_reducible refine below_drewN ?_ _) | ((with_reducible refine below_call (by assumption) ?_ ?_); · (first | omega | (simp; done) | (simp; omega)))))); have z6 := hT6.size; (try (have RW : Rw3 wn7 w4.heap.size 0 0 (.slice none 0 0) := rw3_new hbn7; obtain ⟨⟨r0, r1, r2⟩, fr0, fr1, fr2⟩ := And.intro RW.1 RW.2)); (try (go_wp2_with fail)); refine hK.out _ _ (hS.out _ (by assumption)) (fun hHeld => ?_); clear hK K)
                  try simp only [Act.put, List.getElem_toArray, List.getElem_cons_succ, List.getElem_cons_zero, List.setIfInBounds_toArray, List.set_cons_zero, List.set_cons_succ]
                  (refine wpAnyH_take (i := 8) (v := ?_) rfl (by kernel_rfl) (by kernel_rfl) (by kernel_rfl) (fun _ _ _ h => h) (Or.inl ⟨by rfl, ?_⟩) (by assumption) ?_; rotate_left 1; (focus (intro wz hz; (try dsimp only at hz); (try simp only [List.getElem_toArray, List.getElem_cons_succ, List.getElem_cons_zero]); go_simp; (try (rw [if_neg (by (try simp only [ByteArray.size_append]); omega)])); try (with_reducible rfl); done)))
                  try simp only [Act.put, List.getElem_toArray, List.getElem_cons_succ, List.getElem_cons_zero, List.setIfInBounds_toArray, List.set_cons_zero, List.set_cons_succ]
                  (refine wpAnyH_take (i := 9) (v := ?_) rfl (by kernel_rfl) (by kernel_rfl) (by kernel_rfl) (fun _ _ _ h => h) (Or.inl ⟨by rfl, ?_⟩) (by assumption) ?_; rotate_left 1; (focus (intro wz hz; (try dsimp only at hz); (try simp only [List.getElem_toArray, List.getElem_cons_succ, List.getElem_cons_zero]); go_simp; (try (rw [if_neg (by (try simp only [ByteArray.size_append]); omega)])); try (with_reducible rfl); done)))
                  try simp only [Act.put, List.getElem_toArray, List.getElem_cons_succ, List.getElem_cons_zero, List.setIfInBounds_toArray, List.set_cons_zero, List.set_cons_succ]
                  (refine wpAnyH_take (i := 10) (v := ?_) rfl (by kernel_rfl) (by kernel_rfl) (by kernel_rfl) (fun _ _ _ h => h) (Or.inl ⟨by rfl, ?_⟩) (by assumption) ?_; rotate_left 1; (focus (intro wz hz; (try dsimp only at hz); (try simp only [List.getElem_toArray, List.getElem_cons_succ, List.getElem_cons_zero]); go_simp; (try (rw [if_neg (by (try simp only [ByteArray.size_append]); omega)])); try (with_reducible rfl); done)))
                  try simp only [Act.put, List.getElem_toArray, List.getElem_cons_succ, List.getElem_cons_zero, List.setIfInBounds_toArray, List.set_cons_zero, List.set_cons_succ]
                  (refine wpAnyH_ready (rs := [11]) (by kernel_rfl) (by simp) ?_; refine AllReadyH.cons rfl (fun K hK => ?_) AllReadyH.nil; (try simp only [List.getElem_toArray, List.getElem_cons_succ, List.getElem_cons_zero]); skip; go_simp; refine hK.out _ _ (hS.out _ (by (repeat (first | (with_reducible exact Below.refl _ _) | ((with_reducible refine below_alloc ?_ ?_ _); · (first | omega | (simp; done) | (simp; omega))) | ((with_reducible refine below_setCell ?_ ?_ _); · (first | omega | (simp; done) | (simp; omega))) | (with_reducible refine Below.drew ?_) | (with_reducible refine below_drewN ?_ _) | ((with_reducible refine below_call (by assumption) ?_ ?_); · (first | omega | (simp; done) | (simp; omega))))))) (fun hHeld => ?_); clear hK K)
                  try simp only [Act.put, List.getElem_toArray, List.getElem_cons_succ, List.getElem_cons_zero, List.setIfInBounds_toArray, List.set_cons_zero, List.set_cons_succ]
                  (refine wpAnyH_ready (rs := [12]) (by kernel_rfl) (by simp) ?_; refine AllReadyH.cons rfl (fun K hK => ?_) AllReadyH.nil; (try simp only [List.getElem_toArray, List.getElem_cons_succ, List.getElem_cons_zero]); skip; go_simp; refine hK.out _ _ (hS.out _ (by (repeat (first | (with_reducible exact Below.refl _ _) | ((with_reducible refine below_alloc ?_ ?_ _); · (first | omega | (simp; done) | (simp; omega))) | ((with_reducible refine below_setCell ?_ ?_ _); · (first | omega | (simp; done) | (simp; omega))) | (with_reducible refine Below.drew ?_) | (with_reducible refine below_drewN ?_ _) | ((with_reducible refine below_call (by assumption) ?_ ?_); · (first | omega | (simp; done) | (simp; omega))))))) (fun hHeld => ?_); clear hK K)
                  try simp only [Act.put, List.getElem_toArray, List.getElem_cons_succ, List.getElem_cons_zero, List.setIfInBounds_toArray, List.set_cons_zero, List.set_cons_succ]
                  (refine wpAnyH_take (i := 13) (v := ?_) rfl (by kernel_rfl) (by kernel_rfl) (by kernel_rfl) (fun _ _ _ h => h) (Or.inl ⟨by rfl, ?_⟩) (by assumption) ?_; rotate_left 1; (focus (intro wz hz; (try dsimp only at hz); (try simp only [List.getElem_toArray, List.getElem_cons_succ, List.getElem_cons_zero]); go_simp; (try (rw [if_neg (by (try simp only [ByteArray.size_append]); omega)])); try (with_reducible rfl); done)))
                  try simp only [Act.put, List.getElem_toArray, List.getElem_cons_succ, List.getElem_cons_zero, List.setIfInBounds_toArray, List.set_cons_zero, List.set_cons_succ]
                  refine wpAnyH_done (by kernel_rfl) ?_ _
                  go_wp2_with fail; go_meet; first | exact ⟨_, _, rfl, rfl, boxY_1 (w4 := w4) hI6 hf6 hT6 _ _ _⟩ | exact ⟨_, _, rfl, rfl, boxY_2 (w4 := w4) hI6 hf6 (box_ne hq6) hT6 RW _ _⟩
                · ((try simp only [List.getElem_toArray, List.getElem_cons_succ, List.getElem_cons_zero]); skip; go_simp; refine hK.out _ _ (hS.out _ (by (repeat (first | (with_reducible exact Below.refl _ _) | ((with_reducible refine below_alloc ?_ ?_ _); · (first | omega | (simp; done) | (simp; omega))) | ((with_reducible refine below_setCell ?_ ?_ _); · (first | omega | (simp; done) | (simp; omega))) | (with_reducible refine Below.drew ?_) | (with_reducible refine below_drewN ?_ _) | ((with_reducible refine below_call (by assumption) ?_ ?_); · (first | omega | (simp; done) | (simp; omega))))))) (fun hHeld => ?_); clear hK K)
                  try simp only [Act.put, List.getElem_toArray, List.getElem_cons_succ, List.getElem_cons_zero, List.setIfInBounds_toArray, List.set_cons_zero, List.set_cons_succ]
                  (refine wpAnyH_ready (rs := [7]) (by kernel_rfl) (by simp) ?_; refine AllReadyH.cons rfl (fun K hK => ?_) AllReadyH.nil; (try simp only [List.getElem_toArray, List.getElem_cons_succ, List.getElem_cons_zero]); go_simp; go_at_call 18; refine (cdo.out _ (by (repeat (first | (with_reducible exact Below.refl _ _) | ((with_reducible refine below_alloc ?_ ?_ _); · (first | omega | (simp; done) | (simp; omega))) | ((with_reducible refine below_setCell ?_ ?_ _); · (first | omega | (simp; done) | (simp; omega))) | (with_reducible refine Below.drew ?_) | (with_reducible refine below_drewN ?_ _) | ((with_reducible refine below_call (by assumption) ?_ ?_); · (first | omega | (simp; done) | (simp; omega))))))).mono ?_; rintro e wn7 ⟨p5, c5, rfl, ⟨hI6, hf6, hq6⟩, hbn7⟩; have hT6 : Below w4.heap.size w4 wn7 := (by (repeat (first | (with_reducible exact Below.refl _ _) | ((with_reducible refine below_alloc ?_ ?_ _); · (first | omega | (simp; done) | (simp; omega))) | ((with_reducible refine below_setCell ?_ ?_ _); · (first | omega | (simp; done) | (simp; omega))) | (with_reducible refine Below.drew ?_) | (with_reducible refine below_drewN ?_ _) | ((with_reducible refine below_call (by assumption) ?_ ?_); · (first | omega | (simp; done) | (simp; omega)))))); have z6 := hT6.size; (try (have RW : Rw3 wn7 w4.heap.size 0 0 (.slice none 0 0) := rw3_new hbn7; obtain ⟨⟨r0, r1, r2⟩, fr0, fr1, fr2⟩ := And.intro RW.1 RW.2)); (try (go_wp2_with fail)); refine hK.out _ _ (hS.out _ (by assumption)) (fun hHeld => ?_); clear hK K)
                  try simp only [Act.put, List.getElem_toArray, List.getElem_cons_succ, List.getElem_cons_zero, List.setIfInBounds_toArray, List.set_cons_zero, List.set_cons_succ]
                  (refine wpAnyH_take (i := 8) (v := ?_) rfl (by kernel_rfl) (by kernel_rfl) (by kernel_rfl) (fun _ _ _ h => h) (Or.inl ⟨by rfl, ?_⟩) (by assumption) ?_; rotate_left 1; (focus (intro wz hz; (try dsimp only at hz); (try simp only [List.getElem_toArray, List.getElem_cons_succ, List.getElem_cons_zero]); go_simp; (try (rw [if_neg (by (try simp only [ByteArray.size_append]); omega)])); try (with_reducible rfl); done)))
                  try simp only [Act.put, List.getElem_toArray, List.getElem_cons_succ, List.getElem_cons_zero, List.setIfInBounds_toArray, List.set_cons_zero, List.set_cons_succ]
                  (refine wpAnyH_take (i := 9) (v := ?_) rfl (by kernel_rfl) (by kernel_rfl) (by kernel_rfl) (fun _ _ _ h => h) (Or.inl ⟨by rfl, ?_⟩) (by assumption) ?_; rotate_left 1; (focus (intro wz hz; (try dsimp only at hz); (try simp only [List.getElem_toArray, List.getElem_cons_succ, List.getElem_cons_zero]); go_simp; (try (rw [if_neg (by (try simp only [ByteArray.size_append]); omega)])); try (with_reducible rfl); done)))
                  try simp only [Act.put, List.getElem_toArray, List.getElem_cons_succ, List.getElem_cons_zero, List.setIfInBounds_toArray, List.set_cons_zero, List.set_cons_succ]
                  (refine wpAnyH_take (i := 10) (v := ?_) rfl (by kernel_rfl) (by kernel_rfl) (by kernel_rfl) (fun _ _ _ h => h) (Or.inl ⟨by rfl, ?_⟩) (by assumption) ?_; rotate_left 1; (focus (intro wz hz; (try dsimp only at hz); (try simp only [List.getElem_toArray, List.getElem_cons_succ, List.getElem_cons_zero]); go_simp; (try (rw [if_neg (by (try simp only [ByteArray.size_append]); omega)])); try (with_reducible rfl); done)))
                  try simp only [Act.put, List.getElem_toArray, List.getElem_cons_succ, List.getElem_cons_zero, List.setIfInBounds_toArray, List.set_cons_zero, List.set_cons_succ]
                  (refine wpAnyH_ready (rs := [12]) (by kernel_rfl) (by simp) ?_; refine AllReadyH.cons rfl (fun K hK => ?_) AllReadyH.nil; (try simp only [List.getElem_toArray, List.getElem_cons_succ, List.getElem_cons_zero]); skip; go_simp; refine hK.out _ _ (hS.out _ (by (repeat (first | (with_reducible exact Below.refl _ _) | ((with_reducible refine below_alloc ?_ ?_ _); · (first | omega | (simp; done) | (simp; omega))) | ((with_reducible refine below_setCell ?_ ?_ _); · (first | omega | (simp; done) | (simp; omega))) | (with_reducible refine Below.drew ?_) | (with_reducible refine below_drewN ?_ _) | ((with_reducible refine below_call (by assumption) ?_ ?_); · (first | omega | (simp; done) | (simp; omega))))))) (fun hHeld => ?_); clear hK K)
                  try simp only [Act.put, List.getElem_toArray, List.getElem_cons_succ, List.getElem_cons_zero, List.setIfInBounds_toArray, List.set_cons_zero, List.set_cons_succ]
                  (refine wpAnyH_take (i := 13) (v := ?_) rfl (by kernel_rfl) (by kernel_rfl) (by kernel_rfl) (fun _ _ _ h => h) (Or.inl ⟨by rfl, ?_⟩) (by assumption) ?_; rotate_left 1; (focus (intro wz hz; (try dsimp only at hz); (try simp only [List.getElem_toArray, List.getElem_cons_succ, List.getElem_cons_zero]); go_simp; (try (rw [if_neg (by (try simp only [ByteArray.size_append]); omega)])); try (with_reducible rfl); done)))
                  try simp only [Act.put, List.getElem_toArray, List.getElem_cons_succ, List.getElem_cons_zero, List.setIfInBounds_toArray, List.set_cons_zero, List.set_cons_succ]
                  refine wpAnyH_done (by kernel_rfl) ?_ _
                  go_wp2_with fail; go_meet; first | exact ⟨_, _, rfl, rfl, boxY_1 (w4 := w4) hI6 hf6 hT6 _ _ _⟩ | exact ⟨_, _, rfl, rfl, boxY_2 (w4 := w4) hI6 hf6 (box_ne hq6) hT6 RW _ _⟩
              case rest =>
                obtain ⟨qx, v5, rfl, rfl, ⟨y0, y1, y2⟩, hI, hf, hb⟩ := hcut
                have hT5 := Lib.hid (hT4.out.call hb)
                obtain ⟨⟨m0, m1, m2⟩, fz0, fz1, fz2⟩ := And.intro hT5.out.r.1 hT5.out.r.2
                obtain ⟨p5, c5, rfl⟩ : ∃ p5 c5, v5 = .slice p5 ls.length c5 := by
                  obtain ⟨p5, c5, e, _⟩ := hI.2
                  exact ⟨p5, c5, e⟩
                have HI := Lib.hid (And.intro hI hf)
                have hbb : (E != E) = false := by simp
                clear hI hf hb hT4 cdo
                go_wp2
                go_meet
                exact Lib.hid ⟨C4, ls, _, nw, hT5.out.put nw ls _ HI.out.1 HI.out.2, HLN.out⟩
        case rest =>
          as_aux_lemma =>
          obtain ⟨C, l1, vv, n2, T1, hll1⟩ := hcut.out
          have hT1 := Lib.hid T1
          have HLL1 := Lib.hid hll1
          have hl61 : l1.length ≤ 61 := by omega
          have hGood := Lib.hid T1.a.good
          obtain ⟨p1, c1, rfl⟩ : ∃ p1 c1, vv = .slice p1 l1.length c1 := by
            obtain ⟨p1, c1, e, _⟩ := T1.i.2
            exact ⟨p1, c1, e⟩
          obtain ⟨⟨m0, m1, m2⟩, fz0, fz1, fz2⟩ := And.intro T1.r.1 T1.r.2
          clear hcut T1 hll1 hT0 hll d0 d1 d2 HP HK hq hq2 hqb hwq
          go_wp2_with fail
          refine (wnext_any C g N n2 l1 _ hT1.out.a).mono ?_; rintro e w4 ⟨rfl, hb4⟩
          have hT4 := Lib.hid (hT1.out.call hb4)
          clear hb4 hT1 m0 m1 m2 fz0 fz1 fz2
          obtain ⟨⟨m0, m1, m2⟩, fz0, fz1, fz2⟩ := And.intro hT4.out.r.1 hT4.out.r.2
          go_wp2_with fail
          refine (refnext_any N n2 _ l1 _ hT4.out.i).mono ?_; rintro e w5 ⟨rfl, hb5⟩
          have hT5 := Lib.hid (hT4.out.call hb5)
          clear hb5 hT4 m0 m1 m2 fz0 fz1 fz2
          obtain ⟨d0, d1, d2⟩ := HCL.out _ hT5.out.B
          go_wp2_with fail
          refine (wwhen_any C g N n2 l1 _ hT5.out.a i0 HOK.out.1).mono ?_; rintro e w6 ⟨rfl, hb6⟩
          have hT6 := Lib.hid (hT5.out.call hb6)
          clear hb6 hT5 d0 d1 d2
          have hS := Lib.hid (fun W (hb : Below w6.heap.size w6 W) => (show (W.cell? ⟨bm, 0, none⟩ = some (.int .i64 N) ∧ W.cell? ⟨bm, 1, none⟩ = some (.int .i64 n2) ∧ W.cell? ⟨bm, 2, none⟩ = some (.slice p1 l1.length c1)) ∧ W.cell? ⟨bb, off + k * 3 + 1, none⟩ = some (.int .i64 i0) from ⟨(hT6.out.r.call hb).1, (HCL.out _ (hT6.out.B.trans (hb.mono hT6.out.B.size))).2.1⟩))
          have hTd : Below w6.heap.size w6 w6.drew := Below.drew (Below.refl _ _)
          have cwh := Lib.hid (fun W (hb : Below w6.heap.size w6 W) => refwhen_any N n2 i0 _ l1 W (hT6.out.i.call hb) (by omega))
          go_upto_region 33 with fail
          refine wp_region_held_drew (S := fun W => (W.cell? ⟨bm, 0, none⟩ = some (.int .i64 N) ∧ W.cell? ⟨bm, 1, none⟩ = some (.int .i64 n2) ∧ W.cell? ⟨bm, 2, none⟩ = some (.slice p1 l1.length c1)) ∧ W.cell? ⟨bb, off + k * 3 + 1, none⟩ = some (.int .i64 i0)) (by kernel_rfl) (hS.out _ (by assumption)) (fun hHeld => ?_)
          (refine wpAnyH_take (i := 0) (v := ?_) rfl (by kernel_rfl) (by kernel_rfl) (by kernel_rfl) (fun _ _ _ h => h) (Or.inl ⟨by rfl, ?_⟩) (by assumption) ?_; rotate_left 1; (focus (intro wz hz; (try dsimp only at hz); (try simp only [List.getElem_toArray, List.getElem_cons_succ, List.getElem_cons_zero]); go_simp; (try (rw [if_neg (by (try simp only [ByteArray.size_append]); omega)])); try (with_reducible rfl); done)))
          try simp only [Act.put, List.getElem_toArray, List.getElem_cons_succ, List.getElem_cons_zero, List.setIfInBounds_toArray, List.set_cons_zero, List.set_cons_succ]
          (refine wpAnyH_take (i := 1) (v := ?_) rfl (by kernel_rfl) (by kernel_rfl) (by kernel_rfl) (fun _ _ _ h => h) (Or.inl ⟨by rfl, ?_⟩) (by assumption) ?_; rotate_left 1; (focus (intro wz hz; (try dsimp only at hz); (try simp only [List.getElem_toArray, List.getElem_cons_succ, List.getElem_cons_zero]); go_simp; (try (rw [if_neg (by (try simp only [ByteArray.size_append]); omega)])); try (with_reducible rfl); done)))
          try simp only [Act.put, List.getElem_toArray, List.getElem_cons_succ, List.getElem_cons_zero, List.setIfInBounds_toArray, List.set_cons_zero, List.set_cons_succ]
          (refine wpAnyH_take (i := 2) (v := ?_) rfl (by kernel_rfl) (by kernel_rfl) (by kernel_rfl) (fun _ _ _ h => h) (Or.inl ⟨by rfl, ?_⟩) (by assumption) ?_; rotate_left 1; (focus (intro wz hz; (try dsimp only at hz); (try simp only [List.getElem_toArray, List.getElem_cons_succ, List.getElem_cons_zero]); go_simp; (try (rw [if_neg (by (try simp only [ByteArray.size_append]); omega)])); try (with_reducible rfl); done)))
          try simp only [Act.put, List.getElem_toArray, List.getElem_cons_succ, List.getElem_cons_zero, List.setIfInBounds_toArray, List.set_cons_zero, List.set_cons_succ]
          (refine wpAnyH_take (i := 3) (v := ?_) rfl (by kernel_rfl) (by kernel_rfl) (by kernel_rfl) (fun _ _ _ h => h) (Or.inl ⟨by rfl, ?_⟩) (by assumption) ?_; rotate_left 1; (focus (intro wz hz; (try dsimp only at hz); (try simp only [List.getElem_toArray, List.getElem_cons_succ, List.getElem_cons_zero]); go_simp; (try (rw [if_neg (by (try simp only [ByteArray.size_append]); omega)])); try (with_reducible rfl); done)))
          try simp only [Act.put, List.getElem_toArray, List.getElem_cons_succ, List.getElem_cons_zero, List.setIfInBounds_toArray, List.set_cons_zero, List.set_cons_succ]
          (refine wpAnyH_take (i := 4) (v := ?_) rfl (by kernel_rfl) (by kernel_rfl) (by kernel_rfl) (fun _ _ _ h => h) (Or.inl ⟨by rfl, ?_⟩) (by assumption) ?_; rotate_left 1; (focus (intro wz hz; (try dsimp only at hz); (try simp only [List.getElem_toArray, List.getElem_cons_succ, List.getElem_cons_zero]); go_simp; (try (rw [if_neg (by (try simp only [ByteArray.size_append]); omega)])); try (with_reducible rfl); done)))
          try simp only [Act.put, List.getElem_toArray, List.getElem_cons_succ, List.getElem_cons_zero, List.setIfInBounds_toArray, List.set_cons_zero, List.set_cons_succ]
          (refine wpAnyH_take (i := 5) (v := ?_) rfl (by kernel_rfl) (by kernel_rfl) (by kernel_rfl) (fun _ _ _ h => h) (Or.inl ⟨by rfl, ?_⟩) (by assumption) ?_; rotate_left 1; (focus (intro wz hz; (try dsimp only at hz); (try simp only [List.getElem_toArray, List.getElem_cons_succ, List.getElem_cons_zero]); go_simp; (try (rw [if_neg (by (try simp only [ByteArray.size_append]); omega)])); try (with_reducible rfl); done)))
          try simp only [Act.put, List.getElem_toArray, List.getElem_cons_succ, List.getElem_cons_zero, List.setIfInBounds_toArray, List.set_cons_zero, List.set_cons_succ]
          (refine wpAnyH_ready (rs := [6]) (by kernel_rfl) (by simp) ?_; refine AllReadyH.cons rfl (fun K hK => ?_) AllReadyH.nil; (try simp only [List.getElem_toArray, List.getElem_cons_succ, List.getElem_cons_zero]); go_simp; go_at_call 22; refine (cwh.out _ (by assumption)).mono ?_; rintro e wn6 ⟨rfl, hbn6⟩; have hT7 : Below w6.heap.size w6 wn6 := hTd.trans hbn6; (try (go_wp2_with fail)); refine hK.out _ _ (hS.out _ (by assumption)) (fun hHeld => ?_); clear hK K)
          try simp only [Act.put, List.getElem_toArray, List.getElem_cons_succ, List.getElem_cons_zero, List.setIfInBounds_toArray, List.set_cons_zero, List.set_cons_succ]
          (refine wpAnyH_take (i := 7) (v := ?_) rfl (by kernel_rfl) (by kernel_rfl) (by kernel_rfl) (fun _ _ _ h => h) (Or.inl ⟨by rfl, ?_⟩) (by assumption) ?_; rotate_left 1; (focus (intro wz hz; (try dsimp only at hz); (try simp only [List.getElem_toArray, List.getElem_cons_succ, List.getElem_cons_zero]); go_simp; (try (rw [if_neg (by (try simp only [ByteArray.size_append]); omega)])); try (with_reducible rfl); done)))
          try simp only [Act.put, List.getElem_toArray, List.getElem_cons_succ, List.getElem_cons_zero, List.setIfInBounds_toArray, List.set_cons_zero, List.set_cons_succ]
          (refine wpAnyH_take (i := 8) (v := ?_) rfl (by kernel_rfl) (by kernel_rfl) (by kernel_rfl) (fun _ _ _ h => h) (Or.inl ⟨by rfl, ?_⟩) (by assumption) ?_; rotate_left 1; (focus (intro wz hz; (try dsimp only at hz); (try simp only [List.getElem_toArray, List.getElem_cons_succ, List.getElem_cons_zero]); go_simp; (try (rw [if_neg (by (try simp only [ByteArray.size_append]); omega)])); try (with_reducible rfl); done)))
          try simp only [Act.put, List.getElem_toArray, List.getElem_cons_succ, List.getElem_cons_zero, List.setIfInBounds_toArray, List.set_cons_zero, List.set_cons_succ]
          (refine wpAnyH_take (i := 9) (v := ?_) rfl (by kernel_rfl) (by kernel_rfl) (by kernel_rfl) (fun _ _ _ h => h) (Or.inl ⟨by rfl, ?_⟩) (by assumption) ?_; rotate_left 1; (focus (intro wz hz; (try dsimp only at hz); (try simp only [List.getElem_toArray, List.getElem_cons_succ, List.getElem_cons_zero]); go_simp; (try (rw [if_neg (by (try simp only [ByteArray.size_append]); omega)])); try (with_reducible rfl); done)))
          try simp only [Act.put, List.getElem_toArray, List.getElem_cons_succ, List.getElem_cons_zero, List.setIfInBounds_toArray, List.set_cons_zero, List.set_cons_succ]
          (refine wpAnyH_take (i := 10) (v := ?_) rfl (by kernel_rfl) (by kernel_rfl) (by kernel_rfl) (fun _ _ _ h => h) (Or.inl ⟨by rfl, ?_⟩) (by assumption) ?_; rotate_left 1; (focus (intro wz hz; (try dsimp only at hz); (try simp only [List.getElem_toArray, List.getElem_cons_succ, List.getElem_cons_zero]); go_simp; (try (rw [if_neg (by (try simp only [ByteArray.size_append]); omega)])); try (with_reducible rfl); done)))
          try simp only [Act.put, List.getElem_toArray, List.getElem_cons_succ, List.getElem_cons_zero, List.setIfInBounds_toArray, List.set_cons_zero, List.set_cons_succ]
          (refine wpAnyH_take (i := 11) (v := ?_) rfl (by kernel_rfl) (by kernel_rfl) (by kernel_rfl) (fun _ _ _ h => h) (Or.inl ⟨by rfl, ?_⟩) (by assumption) ?_; rotate_left 1; (focus (intro wz hz; (try dsimp only at hz); (try simp only [List.getElem_toArray, List.getElem_cons_succ, List.getElem_cons_zero]); go_simp; (try (rw [if_neg (by (try simp only [ByteArray.size_append]); omega)])); try (with_reducible rfl); done)))
          try simp only [Act.put, List.getElem_toArray, List.getElem_cons_succ, List.getElem_cons_zero, List.setIfInBounds_toArray, List.set_cons_zero, List.set_cons_succ]
          refine wpAnyH_done (by kernel_rfl) ?_ _
          clear hHeld hS cwh
          have hT8 := Lib.hid (hT6.out.call hT7)
          clear hT6 hTd hbn6 hT7
          obtain ⟨wX, hwX⟩ : ∃ wX, wn6 = wX := ⟨_, rfl⟩
          rw [hwX] at hT8 ⊢
          clear hwX
          have e1 : ((nextW l1) != (nextW l1)) = false := by simp
          have e2 : ((decide (0 < l1.length)) != (decide (0 < l1.length))) = false := by simp
          have e3 : ((whenW l1 i0) != (whenW l1 i0)) = false := by simp
          have e4 : ((isW l1 i0) != (isW l1 i0)) = false := by simp
          have e5 : ((l1.length : Int) != (l1.length : Int)) = false := by simp
          have e6 : (n2 != n2) = false := by simp
          have hS := Lib.hid (fun W (hb : Below wX.heap.size wX W) => (show (W.cell? ⟨bm, 0, none⟩ = some (.int .i64 N) ∧ W.cell? ⟨bm, 1, none⟩ = some (.int .i64 n2) ∧ W.cell? ⟨bm, 2, none⟩ = some (.slice p1 l1.length c1)) from (hT8.out.r.call hb).1))
          have hTd : Below wX.heap.size wX wX.drew := Below.drew (Below.refl _ _)
          have cAll := Lib.hid (fun W (hb : Below wX.heap.size wX W) => wall_any C g N n2 l1 W (hT8.out.call hb).a)
          have cLen := Lib.hid (fun W (hb : Below wX.heap.size wX W) => wlen_any C g N n2 l1 W (hT8.out.call hb).a)
          have cNow := Lib.hid (fun W (hb : Below wX.heap.size wX W) => wnow_any C g N n2 l1 W (hT8.out.call hb).a)
          have cLoad := Lib.hid (fun W (hb : Below wX.heap.size wX W) => wload_any C g N n2 l1 W (hT8.out.call hb).a)
          have cRef := Lib.hid (fun W (hb : Below wX.heap.size wX W) => refload_any N n2 _ l1 W (hT8.out.i.call hb) (by omega) hGood.out.2 (fun e he => by have := hGood.out.1.r e he; have := hGood.out.1.t; omega))
          have cSd := Lib.hid (fun o W (ho : IsR 2 duC W o l1) (hb : Below wX.heap.size wX W) => samedue_any o (.slice p1 l1.length c1) l1 l1 W ho (hT8.out.i.call hb).1 (by omega) (by omega))
          rw [show decide (l1 = l1) = true from decide_eq_true rfl] at cSd
          have cSi := Lib.hid (fun o o' W (h1 : IsI W o (loadW N l1)) (h2 : IsI W o' (loadW N l1)) => sameInts_any o o' (loadW N l1) (loadW N l1) W h1 h2 (by rw [loadW_len]; have := hGood.out.2; omega))
          rw [sameIB_self] at cSi
          go_wp2
          refine wp_region_held_drew (S := fun W => (W.cell? ⟨bm, 0, none⟩ = some (.int .i64 N) ∧ W.cell? ⟨bm, 1, none⟩ = some (.int .i64 n2) ∧ W.cell? ⟨bm, 2, none⟩ = some (.slice p1 l1.length c1))) (by kernel_rfl) (hS.out _ (by assumption)) (fun hHeld => ?_)
          (refine wpAnyH_take (i := 0) (v := ?_) rfl (by kernel_rfl) (by kernel_rfl) (by kernel_rfl) (fun _ _ _ h => h) (Or.inl ⟨by rfl, ?_⟩) (by assumption) ?_; rotate_left 1; (focus (intro wz hz; (try dsimp only at hz); (try simp only [List.getElem_toArray, List.getElem_cons_succ, List.getElem_cons_zero]); go_simp; (try (rw [if_neg (by (try simp only [ByteArray.size_append]); omega)])); try (with_reducible rfl); done)))
          try simp only [Act.put, List.getElem_toArray, List.getElem_cons_succ, List.getElem_cons_zero, List.setIfInBounds_toArray, List.set_cons_zero, List.set_cons_succ]
          (refine wpAnyH_take (i := 1) (v := ?_) rfl (by kernel_rfl) (by kernel_rfl) (by kernel_rfl) (fun _ _ _ h => h) (Or.inl ⟨by rfl, ?_⟩) (by assumption) ?_; rotate_left 1; (focus (intro wz hz; (try dsimp only at hz); (try simp only [List.getElem_toArray, List.getElem_cons_succ, List.getElem_cons_zero]); go_simp; (try (rw [if_neg (by (try simp only [ByteArray.size_append]); omega)])); try (with_reducible rfl); done)))
          try simp only [Act.put, List.getElem_toArray, List.getElem_cons_succ, List.getElem_cons_zero, List.setIfInBounds_toArray, List.set_cons_zero, List.set_cons_succ]
          (refine wpAnyH_take (i := 2) (v := ?_) rfl (by kernel_rfl) (by kernel_rfl) (by kernel_rfl) (fun _ _ _ h => h) (Or.inl ⟨by rfl, ?_⟩) (by assumption) ?_; rotate_left 1; (focus (intro wz hz; (try dsimp only at hz); (try simp only [List.getElem_toArray, List.getElem_cons_succ, List.getElem_cons_zero]); go_simp; (try (rw [if_neg (by (try simp only [ByteArray.size_append]); omega)])); try (with_reducible rfl); done)))
          try simp only [Act.put, List.getElem_toArray, List.getElem_cons_succ, List.getElem_cons_zero, List.setIfInBounds_toArray, List.set_cons_zero, List.set_cons_succ]
          (refine wpAnyH_take (i := 3) (v := ?_) rfl (by kernel_rfl) (by kernel_rfl) (by kernel_rfl) (fun _ _ _ h => h) (Or.inl ⟨by rfl, ?_⟩) (by assumption) ?_; rotate_left 1; (focus (intro wz hz; (try dsimp only at hz); (try simp only [List.getElem_toArray, List.getElem_cons_succ, List.getElem_cons_zero]); go_simp; (try (rw [if_neg (by (try simp only [ByteArray.size_append]); omega)])); try (with_reducible rfl); done)))
          try simp only [Act.put, List.getElem_toArray, List.getElem_cons_succ, List.getElem_cons_zero, List.setIfInBounds_toArray, List.set_cons_zero, List.set_cons_succ]
          first | (refine wpAnyH_take (i := 4) (v := ?_) rfl (by kernel_rfl) (by kernel_rfl) (by kernel_rfl) (fun _ _ _ h => h) (Or.inl ⟨by rfl, ?_⟩) (by assumption) ?_; rotate_left 1; (focus (intro wz hz; (try dsimp only at hz); (try simp only [List.getElem_toArray, List.getElem_cons_succ, List.getElem_cons_zero]); go_simp; (try (rw [if_neg (by (try simp only [ByteArray.size_append]); omega)])); try (with_reducible rfl); done))) | (refine wpAnyH_take (i := 4) (v := undef) rfl (by kernel_rfl) (by kernel_rfl) (by kernel_rfl) (fun _ _ _ h => h) (Or.inr ⟨by rfl, rfl⟩) (by assumption) ?_)
          try simp only [Act.put, List.getElem_toArray, List.getElem_cons_succ, List.getElem_cons_zero, List.setIfInBounds_toArray, List.set_cons_zero, List.set_cons_succ]
          first | (refine wpAnyH_take (i := 5) (v := ?_) rfl (by kernel_rfl) (by kernel_rfl) (by kernel_rfl) (fun _ _ _ h => h) (Or.inl ⟨by rfl, ?_⟩) (by assumption) ?_; rotate_left 1; (focus (intro wz hz; (try dsimp only at hz); (try simp only [List.getElem_toArray, List.getElem_cons_succ, List.getElem_cons_zero]); go_simp; (try (rw [if_neg (by (try simp only [ByteArray.size_append]); omega)])); try (with_reducible rfl); done))) | (refine wpAnyH_take (i := 5) (v := undef) rfl (by kernel_rfl) (by kernel_rfl) (by kernel_rfl) (fun _ _ _ h => h) (Or.inr ⟨by rfl, rfl⟩) (by assumption) ?_)
          try simp only [Act.put, List.getElem_toArray, List.getElem_cons_succ, List.getElem_cons_zero, List.setIfInBounds_toArray, List.set_cons_zero, List.set_cons_succ]
          first | (refine wpAnyH_take (i := 6) (v := ?_) rfl (by kernel_rfl) (by kernel_rfl) (by kernel_rfl) (fun _ _ _ h => h) (Or.inl ⟨by rfl, ?_⟩) (by assumption) ?_; rotate_left 1; (focus (intro wz hz; (try dsimp only at hz); (try simp only [List.getElem_toArray, List.getElem_cons_succ, List.getElem_cons_zero]); go_simp; (try (rw [if_neg (by (try simp only [ByteArray.size_append]); omega)])); try (with_reducible rfl); done))) | (refine wpAnyH_take (i := 6) (v := undef) rfl (by kernel_rfl) (by kernel_rfl) (by kernel_rfl) (fun _ _ _ h => h) (Or.inr ⟨by rfl, rfl⟩) (by assumption) ?_)
          try simp only [Act.put, List.getElem_toArray, List.getElem_cons_succ, List.getElem_cons_zero, List.setIfInBounds_toArray, List.set_cons_zero, List.set_cons_succ]
          (refine wpAnyH_take (i := 7) (v := ?_) rfl (by kernel_rfl) (by kernel_rfl) (by kernel_rfl) (fun _ _ _ h => h) (Or.inl ⟨by rfl, ?_⟩) (by assumption) ?_; rotate_left 1; (focus (intro wz hz; (try dsimp only at hz); (try simp only [List.getElem_toArray, List.getElem_cons_succ, List.getElem_cons_zero]); go_simp; (try (rw [if_neg (by (try simp only [ByteArray.size_append]); omega)])); try (with_reducible rfl); done)))
          try simp only [Act.put, List.getElem_toArray, List.getElem_cons_succ, List.getElem_cons_zero, List.setIfInBounds_toArray, List.set_cons_zero, List.set_cons_succ]
          (refine wpAnyH_take (i := 8) (v := ?_) rfl (by kernel_rfl) (by kernel_rfl) (by kernel_rfl) (fun _ _ _ h => h) (Or.inl ⟨by rfl, ?_⟩) (by assumption) ?_; rotate_left 1; (focus (intro wz hz; (try dsimp only at hz); (try simp only [List.getElem_toArray, List.getElem_cons_succ, List.getElem_cons_zero]); go_simp; (try (rw [if_neg (by (try simp only [ByteArray.size_append]); omega)])); try (with_reducible rfl); done)))
          try simp only [Act.put, List.getElem_toArray, List.getElem_cons_succ, List.getElem_cons_zero, List.setIfInBounds_toArray, List.set_cons_zero, List.set_cons_succ]
          first | (refine wpAnyH_take (i := 9) (v := ?_) rfl (by kernel_rfl) (by kernel_rfl) (by kernel_rfl) (fun _ _ _ h => h) (Or.inl ⟨by rfl, ?_⟩) (by assumption) ?_; rotate_left 1; (focus (intro wz hz; (try dsimp only at hz); (try simp only [List.getElem_toArray, List.getElem_cons_succ, List.getElem_cons_zero]); go_simp; (try (rw [if_neg (by (try simp only [ByteArray.size_append]); omega)])); try (with_reducible rfl); done))) | (refine wpAnyH_take (i := 9) (v := undef) rfl (by kernel_rfl) (by kernel_rfl) (by kernel_rfl) (fun _ _ _ h => h) (Or.inr ⟨by rfl, rfl⟩) (by assumption) ?_)
          try simp only [Act.put, List.getElem_toArray, List.getElem_cons_succ, List.getElem_cons_zero, List.setIfInBounds_toArray, List.set_cons_zero, List.set_cons_succ]
          first | (refine wpAnyH_take (i := 10) (v := ?_) rfl (by kernel_rfl) (by kernel_rfl) (by kernel_rfl) (fun _ _ _ h => h) (Or.inl ⟨by rfl, ?_⟩) (by assumption) ?_; rotate_left 1; (focus (intro wz hz; (try dsimp only at hz); (try simp only [List.getElem_toArray, List.getElem_cons_succ, List.getElem_cons_zero]); go_simp; (try (rw [if_neg (by (try simp only [ByteArray.size_append]); omega)])); try (with_reducible rfl); done))) | (refine wpAnyH_take (i := 10) (v := undef) rfl (by kernel_rfl) (by kernel_rfl) (by kernel_rfl) (fun _ _ _ h => h) (Or.inr ⟨by rfl, rfl⟩) (by assumption) ?_)
          try simp only [Act.put, List.getElem_toArray, List.getElem_cons_succ, List.getElem_cons_zero, List.setIfInBounds_toArray, List.set_cons_zero, List.set_cons_succ]
          first | (refine wpAnyH_take (i := 11) (v := ?_) rfl (by kernel_rfl) (by kernel_rfl) (by kernel_rfl) (fun _ _ _ h => h) (Or.inl ⟨by rfl, ?_⟩) (by assumption) ?_; rotate_left 1; (focus (intro wz hz; (try dsimp only at hz); (try simp only [List.getElem_toArray, List.getElem_cons_succ, List.getElem_cons_zero]); go_simp; (try (rw [if_neg (by (try simp only [ByteArray.size_append]); omega)])); try (with_reducible rfl); done))) | (refine wpAnyH_take (i := 11) (v := undef) rfl (by kernel_rfl) (by kernel_rfl) (by kernel_rfl) (fun _ _ _ h => h) (Or.inr ⟨by rfl, rfl⟩) (by assumption) ?_)
          try simp only [Act.put, List.getElem_toArray, List.getElem_cons_succ, List.getElem_cons_zero, List.setIfInBounds_toArray, List.set_cons_zero, List.set_cons_succ]
          (refine wpAnyH_take (i := 12) (v := ?_) rfl (by kernel_rfl) (by kernel_rfl) (by kernel_rfl) (fun _ _ _ h => h) (Or.inl ⟨by rfl, ?_⟩) (by assumption) ?_; rotate_left 1; (focus (intro wz hz; (try dsimp only at hz); (try simp only [List.getElem_toArray, List.getElem_cons_succ, List.getElem_cons_zero]); go_simp; (try (rw [if_neg (by (try simp only [ByteArray.size_append]); omega)])); try (with_reducible rfl); done)))
          try simp only [Act.put, List.getElem_toArray, List.getElem_cons_succ, List.getElem_cons_zero, List.setIfInBounds_toArray, List.set_cons_zero, List.set_cons_succ]
          (refine wpAnyH_take (i := 13) (v := ?_) rfl (by kernel_rfl) (by kernel_rfl) (by kernel_rfl) (fun _ _ _ h => h) (Or.inl ⟨by rfl, ?_⟩) (by assumption) ?_; rotate_left 1; (focus (intro wz hz; (try dsimp only at hz); (try simp only [List.getElem_toArray, List.getElem_cons_succ, List.getElem_cons_zero]); go_simp; (try (rw [if_neg (by (try simp only [ByteArray.size_append]); omega)])); try (with_reducible rfl); done)))
          try simp only [Act.put, List.getElem_toArray, List.getElem_cons_succ, List.getElem_cons_zero, List.setIfInBounds_toArray, List.set_cons_zero, List.set_cons_succ]
          first | (refine wpAnyH_take (i := 14) (v := ?_) rfl (by kernel_rfl) (by kernel_rfl) (by kernel_rfl) (fun _ _ _ h => h) (Or.inl ⟨by rfl, ?_⟩) (by assumption) ?_; rotate_left 1; (focus (intro wz hz; (try dsimp only at hz); (try simp only [List.getElem_toArray, List.getElem_cons_succ, List.getElem_cons_zero]); go_simp; (try (rw [if_neg (by (try simp only [ByteArray.size_append]); omega)])); try (with_reducible rfl); done))) | (refine wpAnyH_take (i := 14) (v := undef) rfl (by kernel_rfl) (by kernel_rfl) (by kernel_rfl) (fun _ _ _ h => h) (Or.inr ⟨by rfl, rfl⟩) (by assumption) ?_)
          try simp only [Act.put, List.getElem_toArray, List.getElem_cons_succ, List.getElem_cons_zero, List.setIfInBounds_toArray, List.set_cons_zero, List.set_cons_succ]
          first | (refine wpAnyH_take (i := 15) (v := ?_) rfl (by kernel_rfl) (by kernel_rfl) (by kernel_rfl) (fun _ _ _ h => h) (Or.inl ⟨by rfl, ?_⟩) (by assumption) ?_; rotate_left 1; (focus (intro wz hz; (try dsimp only at hz); (try simp only [List.getElem_toArray, List.getElem_cons_succ, List.getElem_cons_zero]); go_simp; (try (rw [if_neg (by (try simp only [ByteArray.size_append]); omega)])); try (with_reducible rfl); done))) | (refine wpAnyH_take (i := 15) (v := undef) rfl (by kernel_rfl) (by kernel_rfl) (by kernel_rfl) (fun _ _ _ h => h) (Or.inr ⟨by rfl, rfl⟩) (by assumption) ?_)
          try simp only [Act.put, List.getElem_toArray, List.getElem_cons_succ, List.getElem_cons_zero, List.setIfInBounds_toArray, List.set_cons_zero, List.set_cons_succ]
          first | (refine wpAnyH_take (i := 16) (v := ?_) rfl (by kernel_rfl) (by kernel_rfl) (by kernel_rfl) (fun _ _ _ h => h) (Or.inl ⟨by rfl, ?_⟩) (by assumption) ?_; rotate_left 1; (focus (intro wz hz; (try dsimp only at hz); (try simp only [List.getElem_toArray, List.getElem_cons_succ, List.getElem_cons_zero]); go_simp; (try (rw [if_neg (by (try simp only [ByteArray.size_append]); omega)])); try (with_reducible rfl); done))) | (refine wpAnyH_take (i := 16) (v := undef) rfl (by kernel_rfl) (by kernel_rfl) (by kernel_rfl) (fun _ _ _ h => h) (Or.inr ⟨by rfl, rfl⟩) (by assumption) ?_)
          try simp only [Act.put, List.getElem_toArray, List.getElem_cons_succ, List.getElem_cons_zero, List.setIfInBounds_toArray, List.set_cons_zero, List.set_cons_succ]
          (refine wpAnyH_take (i := 17) (v := ?_) rfl (by kernel_rfl) (by kernel_rfl) (by kernel_rfl) (fun _ _ _ h => h) (Or.inl ⟨by rfl, ?_⟩) (by assumption) ?_; rotate_left 1; (focus (intro wz hz; (try dsimp only at hz); (try simp only [List.getElem_toArray, List.getElem_cons_succ, List.getElem_cons_zero]); go_simp; (try (rw [if_neg (by (try simp only [ByteArray.size_append]); omega)])); try (with_reducible rfl); done)))
          try simp only [Act.put, List.getElem_toArray, List.getElem_cons_succ, List.getElem_cons_zero, List.setIfInBounds_toArray, List.set_cons_zero, List.set_cons_succ]
          (refine wpAnyH_take (i := 18) (v := ?_) rfl (by kernel_rfl) (by kernel_rfl) (by kernel_rfl) (fun _ _ _ h => h) (Or.inl ⟨by rfl, ?_⟩) (by assumption) ?_; rotate_left 1; (focus (intro wz hz; (try dsimp only at hz); (try simp only [List.getElem_toArray, List.getElem_cons_succ, List.getElem_cons_zero]); go_simp; (try (rw [if_neg (by (try simp only [ByteArray.size_append]); omega)])); try (with_reducible rfl); done)))
          try simp only [Act.put, List.getElem_toArray, List.getElem_cons_succ, List.getElem_cons_zero, List.setIfInBounds_toArray, List.set_cons_zero, List.set_cons_succ]
          first | (refine wpAnyH_take (i := 19) (v := ?_) rfl (by kernel_rfl) (by kernel_rfl) (by kernel_rfl) (fun _ _ _ h => h) (Or.inl ⟨by rfl, ?_⟩) (by assumption) ?_; rotate_left 1; (focus (intro wz hz; (try dsimp only at hz); (try simp only [List.getElem_toArray, List.getElem_cons_succ, List.getElem_cons_zero]); go_simp; (try (rw [if_neg (by (try simp only [ByteArray.size_append]); omega)])); try (with_reducible rfl); done))) | (refine wpAnyH_take (i := 19) (v := undef) rfl (by kernel_rfl) (by kernel_rfl) (by kernel_rfl) (fun _ _ _ h => h) (Or.inr ⟨by rfl, rfl⟩) (by assumption) ?_)
          try simp only [Act.put, List.getElem_toArray, List.getElem_cons_succ, List.getElem_cons_zero, List.setIfInBounds_toArray, List.set_cons_zero, List.set_cons_succ]
          first | (refine wpAnyH_take (i := 22) (v := ?_) rfl (by kernel_rfl) (by kernel_rfl) (by kernel_rfl) (fun _ _ _ h => h) (Or.inl ⟨by rfl, ?_⟩) (by assumption) ?_; rotate_left 1; (focus (intro wz hz; (try dsimp only at hz); (try simp only [List.getElem_toArray, List.getElem_cons_succ, List.getElem_cons_zero]); go_simp; (try (rw [if_neg (by (try simp only [ByteArray.size_append]); omega)])); try (with_reducible rfl); done))) | (refine wpAnyH_take (i := 22) (v := undef) rfl (by kernel_rfl) (by kernel_rfl) (by kernel_rfl) (fun _ _ _ h => h) (Or.inr ⟨by rfl, rfl⟩) (by assumption) ?_)
          try simp only [Act.put, List.getElem_toArray, List.getElem_cons_succ, List.getElem_cons_zero, List.setIfInBounds_toArray, List.set_cons_zero, List.set_cons_succ]
          first | (refine wpAnyH_take (i := 23) (v := ?_) rfl (by kernel_rfl) (by kernel_rfl) (by kernel_rfl) (fun _ _ _ h => h) (Or.inl ⟨by rfl, ?_⟩) (by assumption) ?_; rotate_left 1; (focus (intro wz hz; (try dsimp only at hz); (try simp only [List.getElem_toArray, List.getElem_cons_succ, List.getElem_cons_zero]); go_simp; (try (rw [if_neg (by (try simp only [ByteArray.size_append]); omega)])); try (with_reducible rfl); done))) | (refine wpAnyH_take (i := 23) (v := undef) rfl (by kernel_rfl) (by kernel_rfl) (by kernel_rfl) (fun _ _ _ h => h) (Or.inr ⟨by rfl, rfl⟩) (by assumption) ?_)
          try simp only [Act.put, List.getElem_toArray, List.getElem_cons_succ, List.getElem_cons_zero, List.setIfInBounds_toArray, List.set_cons_zero, List.set_cons_succ]
          (refine wpAnyH_ready (rs := [20]) (by kernel_rfl) (by simp) ?_; refine AllReadyH.cons rfl (fun K hK => ?_) AllReadyH.nil; (try simp only [List.getElem_toArray, List.getElem_cons_succ, List.getElem_cons_zero]); go_simp; go_at_call 23; refine (cAll.out _ (by assumption)).mono ?_; rintro e wn20 ⟨o1, rfl, R1, hbn20⟩; have hTn20 : Below wX.heap.size wX wn20 := hTd.trans hbn20; (try (go_wp2_with fail)); refine hK.out _ _ (hS.out _ (by assumption)) (fun hHeld => ?_); clear hK K)
          try simp only [Act.put, List.getElem_toArray, List.getElem_cons_succ, List.getElem_cons_zero, List.setIfInBounds_toArray, List.set_cons_zero, List.set_cons_succ]
          (refine wpAnyH_ready (rs := [21]) (by kernel_rfl) (by simp) ?_; refine AllReadyH.cons rfl (fun K hK => ?_) AllReadyH.nil; (try simp only [List.getElem_toArray, List.getElem_cons_succ, List.getElem_cons_zero]); go_simp; go_at_call 13; refine (due_any o1 l1 _ (R1.reads duC_len) (by omega)).mono ?_; rintro e wn21 ⟨o2, rfl, R2, hbn21⟩; have hTn21 : Below wX.heap.size wX wn21 := below_call hbn21 (Below.size (by assumption)) (by assumption); (try (go_wp2_with fail)); refine hK.out _ _ (hS.out _ (by assumption)) (fun hHeld => ?_); clear hK K)
          try simp only [Act.put, List.getElem_toArray, List.getElem_cons_succ, List.getElem_cons_zero, List.setIfInBounds_toArray, List.set_cons_zero, List.set_cons_succ]
          (refine wpAnyH_ready (rs := [24]) (by kernel_rfl) (by simp) ?_; refine AllReadyH.cons rfl (fun K hK => ?_) AllReadyH.nil; (try simp only [List.getElem_toArray, List.getElem_cons_succ, List.getElem_cons_zero]); go_simp; go_at_call 16; refine (cSd.out o2 _ (R2.reads duC_len) (by assumption)).mono ?_; rintro e wn24 ⟨rfl, hbn24⟩; have hTn24 : Below wX.heap.size wX wn24 := below_call hbn24 (Below.size (by assumption)) (by assumption); (try (go_wp2_with fail)); refine hK.out _ _ (hS.out _ (by assumption)) (fun hHeld => ?_); clear hK K)
          try simp only [Act.put, List.getElem_toArray, List.getElem_cons_succ, List.getElem_cons_zero, List.setIfInBounds_toArray, List.set_cons_zero, List.set_cons_succ]
          first | (refine wpAnyH_take (i := 25) (v := ?_) rfl (by kernel_rfl) (by kernel_rfl) (by kernel_rfl) (fun _ _ _ h => h) (Or.inl ⟨by rfl, ?_⟩) (by assumption) ?_; rotate_left 1; (focus (intro wz hz; (try dsimp only at hz); (try simp only [List.getElem_toArray, List.getElem_cons_succ, List.getElem_cons_zero]); go_simp; (try (rw [if_neg (by (try simp only [ByteArray.size_append]); omega)])); try (with_reducible rfl); done))) | (refine wpAnyH_take (i := 25) (v := undef) rfl (by kernel_rfl) (by kernel_rfl) (by kernel_rfl) (fun _ _ _ h => h) (Or.inr ⟨by rfl, rfl⟩) (by assumption) ?_)
          try simp only [Act.put, List.getElem_toArray, List.getElem_cons_succ, List.getElem_cons_zero, List.setIfInBounds_toArray, List.set_cons_zero, List.set_cons_succ]
          (refine wpAnyH_take (i := 26) (v := ?_) rfl (by kernel_rfl) (by kernel_rfl) (by kernel_rfl) (fun _ _ _ h => h) (Or.inl ⟨by rfl, ?_⟩) (by assumption) ?_; rotate_left 1; (focus (intro wz hz; (try dsimp only at hz); (try simp only [List.getElem_toArray, List.getElem_cons_succ, List.getElem_cons_zero]); go_simp; (try (rw [if_neg (by (try simp only [ByteArray.size_append]); omega)])); try (with_reducible rfl); done)))
          try simp only [Act.put, List.getElem_toArray, List.getElem_cons_succ, List.getElem_cons_zero, List.setIfInBounds_toArray, List.set_cons_zero, List.set_cons_succ]
          (refine wpAnyH_take (i := 27) (v := ?_) rfl (by kernel_rfl) (by kernel_rfl) (by kernel_rfl) (fun _ _ _ h => h) (Or.inl ⟨by rfl, ?_⟩) (by assumption) ?_; rotate_left 1; (focus (intro wz hz; (try dsimp only at hz); (try simp only [List.getElem_toArray, List.getElem_cons_succ, List.getElem_cons_zero]); go_simp; (try (rw [if_neg (by (try simp only [ByteArray.size_append]); omega)])); try (with_reducible rfl); done)))
          try simp only [Act.put, List.getElem_toArray, List.getElem_cons_succ, List.getElem_cons_zero, List.setIfInBounds_toArray, List.set_cons_zero, List.set_cons_succ]
          first | (refine wpAnyH_take (i := 28) (v := ?_) rfl (by kernel_rfl) (by kernel_rfl) (by kernel_rfl) (fun _ _ _ h => h) (Or.inl ⟨by rfl, ?_⟩) (by assumption) ?_; rotate_left 1; (focus (intro wz hz; (try dsimp only at hz); (try simp only [List.getElem_toArray, List.getElem_cons_succ, List.getElem_cons_zero]); go_simp; (try (rw [if_neg (by (try simp only [ByteArray.size_append]); omega)])); try (with_reducible rfl); done))) | (refine wpAnyH_take (i := 28) (v := undef) rfl (by kernel_rfl) (by kernel_rfl) (by kernel_rfl) (fun _ _ _ h => h) (Or.inr ⟨by rfl, rfl⟩) (by assumption) ?_)
          try simp only [Act.put, List.getElem_toArray, List.getElem_cons_succ, List.getElem_cons_zero, List.setIfInBounds_toArray, List.set_cons_zero, List.set_cons_succ]
          first | (refine wpAnyH_take (i := 30) (v := ?_) rfl (by kernel_rfl) (by kernel_rfl) (by kernel_rfl) (fun _ _ _ h => h) (Or.inl ⟨by rfl, ?_⟩) (by assumption) ?_; rotate_left 1; (focus (intro wz hz; (try dsimp only at hz); (try simp only [List.getElem_toArray, List.getElem_cons_succ, List.getElem_cons_zero]); go_simp; (try (rw [if_neg (by (try simp only [ByteArray.size_append]); omega)])); try (with_reducible rfl); done))) | (refine wpAnyH_take (i := 30) (v := undef) rfl (by kernel_rfl) (by kernel_rfl) (by kernel_rfl) (fun _ _ _ h => h) (Or.inr ⟨by rfl, rfl⟩) (by assumption) ?_)
          try simp only [Act.put, List.getElem_toArray, List.getElem_cons_succ, List.getElem_cons_zero, List.setIfInBounds_toArray, List.set_cons_zero, List.set_cons_succ]
          first | (refine wpAnyH_take (i := 31) (v := ?_) rfl (by kernel_rfl) (by kernel_rfl) (by kernel_rfl) (fun _ _ _ h => h) (Or.inl ⟨by rfl, ?_⟩) (by assumption) ?_; rotate_left 1; (focus (intro wz hz; (try dsimp only at hz); (try simp only [List.getElem_toArray, List.getElem_cons_succ, List.getElem_cons_zero]); go_simp; (try (rw [if_neg (by (try simp only [ByteArray.size_append]); omega)])); try (with_reducible rfl); done))) | (refine wpAnyH_take (i := 31) (v := undef) rfl (by kernel_rfl) (by kernel_rfl) (by kernel_rfl) (fun _ _ _ h => h) (Or.inr ⟨by rfl, rfl⟩) (by assumption) ?_)
          try simp only [Act.put, List.getElem_toArray, List.getElem_cons_succ, List.getElem_cons_zero, List.setIfInBounds_toArray, List.set_cons_zero, List.set_cons_succ]
          first | (refine wpAnyH_take (i := 32) (v := ?_) rfl (by kernel_rfl) (by kernel_rfl) (by kernel_rfl) (fun _ _ _ h => h) (Or.inl ⟨by rfl, ?_⟩) (by assumption) ?_; rotate_left 1; (focus (intro wz hz; (try dsimp only at hz); (try simp only [List.getElem_toArray, List.getElem_cons_succ, List.getElem_cons_zero]); go_simp; (try (rw [if_neg (by (try simp only [ByteArray.size_append]); omega)])); try (with_reducible rfl); done))) | (refine wpAnyH_take (i := 32) (v := undef) rfl (by kernel_rfl) (by kernel_rfl) (by kernel_rfl) (fun _ _ _ h => h) (Or.inr ⟨by rfl, rfl⟩) (by assumption) ?_)
          try simp only [Act.put, List.getElem_toArray, List.getElem_cons_succ, List.getElem_cons_zero, List.setIfInBounds_toArray, List.set_cons_zero, List.set_cons_succ]
          (refine wpAnyH_ready (rs := [29]) (by kernel_rfl) (by simp) ?_; refine AllReadyH.cons rfl (fun K hK => ?_) AllReadyH.nil; (try simp only [List.getElem_toArray, List.getElem_cons_succ, List.getElem_cons_zero]); go_simp; go_at_call 24; refine (cLen.out _ (by assumption)).mono ?_; rintro e wn29 ⟨rfl, hbn29⟩; have hTn29 : Below wX.heap.size wX wn29 := below_call hbn29 (Below.size (by assumption)) (by assumption); (try (go_wp2_with fail)); refine hK.out _ _ (hS.out _ (by assumption)) (fun hHeld => ?_); clear hK K)
          try simp only [Act.put, List.getElem_toArray, List.getElem_cons_succ, List.getElem_cons_zero, List.setIfInBounds_toArray, List.set_cons_zero, List.set_cons_succ]
          first | (refine wpAnyH_take (i := 33) (v := ?_) rfl (by kernel_rfl) (by kernel_rfl) (by kernel_rfl) (fun _ _ _ h => h) (Or.inl ⟨by rfl, ?_⟩) (by assumption) ?_; rotate_left 1; (focus (intro wz hz; (try dsimp only at hz); (try simp only [List.getElem_toArray, List.getElem_cons_succ, List.getElem_cons_zero]); go_simp; (try (rw [if_neg (by (try simp only [ByteArray.size_append]); omega)])); try (with_reducible rfl); done))) | (refine wpAnyH_take (i := 33) (v := undef) rfl (by kernel_rfl) (by kernel_rfl) (by kernel_rfl) (fun _ _ _ h => h) (Or.inr ⟨by rfl, rfl⟩) (by assumption) ?_)
          try simp only [Act.put, List.getElem_toArray, List.getElem_cons_succ, List.getElem_cons_zero, List.setIfInBounds_toArray, List.set_cons_zero, List.set_cons_succ]
          (refine wpAnyH_take (i := 34) (v := ?_) rfl (by kernel_rfl) (by kernel_rfl) (by kernel_rfl) (fun _ _ _ h => h) (Or.inl ⟨by rfl, ?_⟩) (by assumption) ?_; rotate_left 1; (focus (intro wz hz; (try dsimp only at hz); (try simp only [List.getElem_toArray, List.getElem_cons_succ, List.getElem_cons_zero]); go_simp; (try (rw [if_neg (by (try simp only [ByteArray.size_append]); omega)])); try (with_reducible rfl); done)))
          try simp only [Act.put, List.getElem_toArray, List.getElem_cons_succ, List.getElem_cons_zero, List.setIfInBounds_toArray, List.set_cons_zero, List.set_cons_succ]
          (refine wpAnyH_take (i := 35) (v := ?_) rfl (by kernel_rfl) (by kernel_rfl) (by kernel_rfl) (fun _ _ _ h => h) (Or.inl ⟨by rfl, ?_⟩) (by assumption) ?_; rotate_left 1; (focus (intro wz hz; (try dsimp only at hz); (try simp only [List.getElem_toArray, List.getElem_cons_succ, List.getElem_cons_zero]); go_simp; (try (rw [if_neg (by (try simp only [ByteArray.size_append]); omega)])); try (with_reducible rfl); done)))
          try simp only [Act.put, List.getElem_toArray, List.getElem_cons_succ, List.getElem_cons_zero, List.setIfInBounds_toArray, List.set_cons_zero, List.set_cons_succ]
          first | (refine wpAnyH_take (i := 36) (v := ?_) rfl (by kernel_rfl) (by kernel_rfl) (by kernel_rfl) (fun _ _ _ h => h) (Or.inl ⟨by rfl, ?_⟩) (by assumption) ?_; rotate_left 1; (focus (intro wz hz; (try dsimp only at hz); (try simp only [List.getElem_toArray, List.getElem_cons_succ, List.getElem_cons_zero]); go_simp; (try (rw [if_neg (by (try simp only [ByteArray.size_append]); omega)])); try (with_reducible rfl); done))) | (refine wpAnyH_take (i := 36) (v := undef) rfl (by kernel_rfl) (by kernel_rfl) (by kernel_rfl) (fun _ _ _ h => h) (Or.inr ⟨by rfl, rfl⟩) (by assumption) ?_)
          try simp only [Act.put, List.getElem_toArray, List.getElem_cons_succ, List.getElem_cons_zero, List.setIfInBounds_toArray, List.set_cons_zero, List.set_cons_succ]
          first | (refine wpAnyH_take (i := 38) (v := ?_) rfl (by kernel_rfl) (by kernel_rfl) (by kernel_rfl) (fun _ _ _ h => h) (Or.inl ⟨by rfl, ?_⟩) (by assumption) ?_; rotate_left 1; (focus (intro wz hz; (try dsimp only at hz); (try simp only [List.getElem_toArray, List.getElem_cons_succ, List.getElem_cons_zero]); go_simp; (try (rw [if_neg (by (try simp only [ByteArray.size_append]); omega)])); try (with_reducible rfl); done))) | (refine wpAnyH_take (i := 38) (v := undef) rfl (by kernel_rfl) (by kernel_rfl) (by kernel_rfl) (fun _ _ _ h => h) (Or.inr ⟨by rfl, rfl⟩) (by assumption) ?_)
          try simp only [Act.put, List.getElem_toArray, List.getElem_cons_succ, List.getElem_cons_zero, List.setIfInBounds_toArray, List.set_cons_zero, List.set_cons_succ]
          first | (refine wpAnyH_take (i := 39) (v := ?_) rfl (by kernel_rfl) (by kernel_rfl) (by kernel_rfl) (fun _ _ _ h => h) (Or.inl ⟨by rfl, ?_⟩) (by assumption) ?_; rotate_left 1; (focus (intro wz hz; (try dsimp only at hz); (try simp only [List.getElem_toArray, List.getElem_cons_succ, List.getElem_cons_zero]); go_simp; (try (rw [if_neg (by (try simp only [ByteArray.size_append]); omega)])); try (with_reducible rfl); done))) | (refine wpAnyH_take (i := 39) (v := undef) rfl (by kernel_rfl) (by kernel_rfl) (by kernel_rfl) (fun _ _ _ h => h) (Or.inr ⟨by rfl, rfl⟩) (by assumption) ?_)
          try simp only [Act.put, List.getElem_toArray, List.getElem_cons_succ, List.getElem_cons_zero, List.setIfInBounds_toArray, List.set_cons_zero, List.set_cons_succ]
          (refine wpAnyH_ready (rs := [37]) (by kernel_rfl) (by simp) ?_; refine AllReadyH.cons rfl (fun K hK => ?_) AllReadyH.nil; (try simp only [List.getElem_toArray, List.getElem_cons_succ, List.getElem_cons_zero]); go_simp; go_at_call 25; refine (cNow.out _ (by assumption)).mono ?_; rintro e wn37 ⟨rfl, hbn37⟩; have hTn37 : Below wX.heap.size wX wn37 := below_call hbn37 (Below.size (by assumption)) (by assumption); (try (go_wp2_with fail)); refine hK.out _ _ (hS.out _ (by assumption)) (fun hHeld => ?_); clear hK K)
          try simp only [Act.put, List.getElem_toArray, List.getElem_cons_succ, List.getElem_cons_zero, List.setIfInBounds_toArray, List.set_cons_zero, List.set_cons_succ]
          first | (refine wpAnyH_take (i := 40) (v := ?_) rfl (by kernel_rfl) (by kernel_rfl) (by kernel_rfl) (fun _ _ _ h => h) (Or.inl ⟨by rfl, ?_⟩) (by assumption) ?_; rotate_left 1; (focus (intro wz hz; (try dsimp only at hz); (try simp only [List.getElem_toArray, List.getElem_cons_succ, List.getElem_cons_zero]); go_simp; (try (rw [if_neg (by (try simp only [ByteArray.size_append]); omega)])); try (with_reducible rfl); done))) | (refine wpAnyH_take (i := 40) (v := undef) rfl (by kernel_rfl) (by kernel_rfl) (by kernel_rfl) (fun _ _ _ h => h) (Or.inr ⟨by rfl, rfl⟩) (by assumption) ?_)
          try simp only [Act.put, List.getElem_toArray, List.getElem_cons_succ, List.getElem_cons_zero, List.setIfInBounds_toArray, List.set_cons_zero, List.set_cons_succ]
          (refine wpAnyH_take (i := 41) (v := ?_) rfl (by kernel_rfl) (by kernel_rfl) (by kernel_rfl) (fun _ _ _ h => h) (Or.inl ⟨by rfl, ?_⟩) (by assumption) ?_; rotate_left 1; (focus (intro wz hz; (try dsimp only at hz); (try simp only [List.getElem_toArray, List.getElem_cons_succ, List.getElem_cons_zero]); go_simp; (try (rw [if_neg (by (try simp only [ByteArray.size_append]); omega)])); try (with_reducible rfl); done)))
          try simp only [Act.put, List.getElem_toArray, List.getElem_cons_succ, List.getElem_cons_zero, List.setIfInBounds_toArray, List.set_cons_zero, List.set_cons_succ]
          (refine wpAnyH_take (i := 42) (v := ?_) rfl (by kernel_rfl) (by kernel_rfl) (by kernel_rfl) (fun _ _ _ h => h) (Or.inl ⟨by rfl, ?_⟩) (by assumption) ?_; rotate_left 1; (focus (intro wz hz; (try dsimp only at hz); (try simp only [List.getElem_toArray, List.getElem_cons_succ, List.getElem_cons_zero]); go_simp; (try (rw [if_neg (by (try simp only [ByteArray.size_append]); omega)])); try (with_reducible rfl); done)))
          try simp only [Act.put, List.getElem_toArray, List.getElem_cons_succ, List.getElem_cons_zero, List.setIfInBounds_toArray, List.set_cons_zero, List.set_cons_succ]
          first | (refine wpAnyH_take (i := 43) (v := ?_) rfl (by kernel_rfl) (by kernel_rfl) (by kernel_rfl) (fun _ _ _ h => h) (Or.inl ⟨by rfl, ?_⟩) (by assumption) ?_; rotate_left 1; (focus (intro wz hz; (try dsimp only at hz); (try simp only [List.getElem_toArray, List.getElem_cons_succ, List.getElem_cons_zero]); go_simp; (try (rw [if_neg (by (try simp only [ByteArray.size_append]); omega)])); try (with_reducible rfl); done))) | (refine wpAnyH_take (i := 43) (v := undef) rfl (by kernel_rfl) (by kernel_rfl) (by kernel_rfl) (fun _ _ _ h => h) (Or.inr ⟨by rfl, rfl⟩) (by assumption) ?_)
          try simp only [Act.put, List.getElem_toArray, List.getElem_cons_succ, List.getElem_cons_zero, List.setIfInBounds_toArray, List.set_cons_zero, List.set_cons_succ]
          first | (refine wpAnyH_take (i := 45) (v := ?_) rfl (by kernel_rfl) (by kernel_rfl) (by kernel_rfl) (fun _ _ _ h => h) (Or.inl ⟨by rfl, ?_⟩) (by assumption) ?_; rotate_left 1; (focus (intro wz hz; (try dsimp only at hz); (try simp only [List.getElem_toArray, List.getElem_cons_succ, List.getElem_cons_zero]); go_simp; (try (rw [if_neg (by (try simp only [ByteArray.size_append]); omega)])); try (with_reducible rfl); done))) | (refine wpAnyH_take (i := 45) (v := undef) rfl (by kernel_rfl) (by kernel_rfl) (by kernel_rfl) (fun _ _ _ h => h) (Or.inr ⟨by rfl, rfl⟩) (by assumption) ?_)
          try simp only [Act.put, List.getElem_toArray, List.getElem_cons_succ, List.getElem_cons_zero, List.setIfInBounds_toArray, List.set_cons_zero, List.set_cons_succ]
          (refine wpAnyH_ready (rs := [44]) (by kernel_rfl) (by simp) ?_; refine AllReadyH.cons rfl (fun K hK => ?_) AllReadyH.nil; (try simp only [List.getElem_toArray, List.getElem_cons_succ, List.getElem_cons_zero]); go_simp; go_at_call 27; refine (cLoad.out _ (by assumption)).mono ?_; rintro e wn44 ⟨o3, rfl, R3, hbn44⟩; have hTn44 : Below wX.heap.size wX wn44 := below_call hbn44 (Below.size (by assumption)) (by assumption); (try (go_wp2_with fail)); refine hK.out _ _ (hS.out _ (by assumption)) (fun hHeld => ?_); clear hK K)
          try simp only [Act.put, List.getElem_toArray, List.getElem_cons_succ, List.getElem_cons_zero, List.setIfInBounds_toArray, List.set_cons_zero, List.set_cons_succ]
          (refine wpAnyH_ready (rs := [46]) (by kernel_rfl) (by simp) ?_; refine AllReadyH.cons rfl (fun K hK => ?_) AllReadyH.nil; (try simp only [List.getElem_toArray, List.getElem_cons_succ, List.getElem_cons_zero]); go_simp; go_at_call 28; refine (cRef.out _ (by assumption)).mono ?_; rintro e wn46 ⟨o4, rfl, R4, hbn46⟩; have hTn46 : Below wX.heap.size wX wn46 := below_call hbn46 (Below.size (by assumption)) (by assumption); (try (go_wp2_with fail)); refine hK.out _ _ (hS.out _ (by assumption)) (fun hHeld => ?_); clear hK K)
          try simp only [Act.put, List.getElem_toArray, List.getElem_cons_succ, List.getElem_cons_zero, List.setIfInBounds_toArray, List.set_cons_zero, List.set_cons_succ]
          (refine wpAnyH_ready (rs := [47]) (by kernel_rfl) (by simp) ?_; refine AllReadyH.cons rfl (fun K hK => ?_) AllReadyH.nil; (try simp only [List.getElem_toArray, List.getElem_cons_succ, List.getElem_cons_zero]); go_simp; go_at_call 26; refine (cSi.out o3 o4 _ ((OwnI.call R3 (by assumption)).reads) R4.reads).mono ?_; rintro e wn47 ⟨rfl, hbn47⟩; have hTn47 : Below wX.heap.size wX wn47 := below_call hbn47 (Below.size (by assumption)) (by assumption); (try (go_wp2_with fail)); refine hK.out _ _ (hS.out _ (by assumption)) (fun hHeld => ?_); clear hK K)
          try simp only [Act.put, List.getElem_toArray, List.getElem_cons_succ, List.getElem_cons_zero, List.setIfInBounds_toArray, List.set_cons_zero, List.set_cons_succ]
          first | (refine wpAnyH_take (i := 48) (v := ?_) rfl (by kernel_rfl) (by kernel_rfl) (by kernel_rfl) (fun _ _ _ h => h) (Or.inl ⟨by rfl, ?_⟩) (by assumption) ?_; rotate_left 1; (focus (intro wz hz; (try dsimp only at hz); (try simp only [List.getElem_toArray, List.getElem_cons_succ, List.getElem_cons_zero]); go_simp; (try (rw [if_neg (by (try simp only [ByteArray.size_append]); omega)])); try (with_reducible rfl); done))) | (refine wpAnyH_take (i := 48) (v := undef) rfl (by kernel_rfl) (by kernel_rfl) (by kernel_rfl) (fun _ _ _ h => h) (Or.inr ⟨by rfl, rfl⟩) (by assumption) ?_)
          try simp only [Act.put, List.getElem_toArray, List.getElem_cons_succ, List.getElem_cons_zero, List.setIfInBounds_toArray, List.set_cons_zero, List.set_cons_succ]
          (refine wpAnyH_take (i := 49) (v := ?_) rfl (by kernel_rfl) (by kernel_rfl) (by kernel_rfl) (fun _ _ _ h => h) (Or.inl ⟨by rfl, ?_⟩) (by assumption) ?_; rotate_left 1; (focus (intro wz hz; (try dsimp only at hz); (try simp only [List.getElem_toArray, List.getElem_cons_succ, List.getElem_cons_zero]); go_simp; (try (rw [if_neg (by (try simp only [ByteArray.size_append]); omega)])); try (with_reducible rfl); done)))
          try simp only [Act.put, List.getElem_toArray, List.getElem_cons_succ, List.getElem_cons_zero, List.setIfInBounds_toArray, List.set_cons_zero, List.set_cons_succ]
          refine wpAnyH_done (by kernel_rfl) ?_ _
          clear hHeld
          go_wp2
          go_roundw
          case rel => exact ⟨k + 1, by go_num, by omega, Lib.hid ⟨C, l1, _, n2, hT8.out.call hTn47, HLL1.out⟩⟩
          case measure => simp [intOf]; omega
    · obtain rfl : k = l.length := by omega
      have hlt' : ¬ (l.length : Int) < l.length := by omega
      obtain ⟨C, l0, vv, nw, T0, -⟩ := HT.out
      have hB := T0.B
      clear HT T0
      go_wp2_with fail
      refine (awake_any _).mono ?_; rintro _ w9 ⟨rfl, hb9⟩
      go_wp2
      go_ret
      exact ⟨rfl, below_call hb9 hB.size hB⟩

set_option maxRecDepth 100000 in
theorem wplays_lifted (os : Os) (started : os.Started) (H : Type) (enc : TypeId × Value → H) :
    ReturnsInHanded {} Try.checked os 3 .any (Rows.wheelPlaysSpec.pre6 enc Try.prog Try.f3 Rows.wheelPlaysRow.domain false) (Rows.wheelPlaysSpec.post enc Try.prog Try.f3 false true false false) := by
  refine returnsInHanded_of_change (C := Try.checked) own started (by kernel_rfl) Try.func3
    (ChangeSpec.witness6 (enc := enc) (C := Try.checked) false ⟨#[], #[.int .i64 0, .slice none 0 0], []⟩ 8 (by kernel_rfl) (by kernel_rfl) (by kernel_rfl) (by kernel_rfl)) ?_
  intro W base args ds gs before hval0 hW hcnd _
  have hval : ∀ (j : Nat) t v, Try.f3.params[j]? = some t → args[j]? = some v → Value.okWide Try.prog W .any base t v := hval0
  have hW' := hW
  obtain ⟨p, q, hA0, hV, rfl, hfz, hnd⟩ := hW
  have hA : DataW.TrodAll enc Try.prog W 0 (fun _ => true) true Try.f3.params.toList args.toList ds p := hA0
  rw [Try.params3] at hA hval
  obtain ⟨v0, vs0, d0, ds0, p0, q0, hargs, rfl, rfl, h0, r0⟩ := trodAll_cons hA
  obtain ⟨v1, vs1, d1, ds1, p1, q1, rfl, rfl, rfl, h1, r1⟩ := trodAll_cons r0
  obtain ⟨rfl, rfl, rfl⟩ := trodAll_nil r1
  obtain rfl : args = #[v0, v1] := by cases args; simp_all
  obtain ⟨rfl, rfl⟩ := trodVars_none hV
  obtain ⟨a, rfl, rfl, rfl, hba⟩ := open_int Try.underlying3 (hval 0 3 v0 rfl rfl) h0
  obtain ⟨l, hl, hok⟩ := open_acts (hval 1 22 v1 rfl rfl) h1
  refine (wplays_walk a v1 l W (bounds_i64 hba) hl hok).mono fun e W' ⟨he, hb⟩ => ?_
  subst he
  exact ⟨_, rfl, law_post rfl rfl Try.underlying4 (by kernel_rfl) rfl hW' hb⟩
theorem wplays_holds : Rows.WheelPlaysSaid :=
  OpenClaim.holds_of_wide 3 Try.f3 rfl rfl rfl rfl rfl rfl rfl ⟨rfl, rfl, rfl, rfl, rfl⟩ rfl rfl rfl rfl rfl (by kernel_rfl) Try.func3 (by kernel_rfl)
    (of_decide_eq_true (by kernel_rfl)) (by unfold Func.isWrapper; first | (rw [if_pos (by decide +kernel)]; kernel_rfl) | (rw [if_neg (by decide +kernel)]; exact ⟨rfl, rfl⟩))
    (fun os started H enc _ => wplays_lifted os started H enc)
end Go.Proofs.Ytcanaadcjipfjaa
