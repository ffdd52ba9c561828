/- Layer 16, the document's Run: a load at each tick. -/
import Derived.Test.YtjnonngnkkdmdaaL16C
import Derived.Test.YtjnonngnkkdmdaaKitI
import Derived.Test.YtjnonngnkkdmdaaKitTail
namespace Go.Proofs.Ytjnonngnkkdmdaa
open Go.RowKit
set_option linter.unusedVariables false
set_option linter.unusedSimpArgs false

/-- the state behind some loads -/
def endL (c : Lc) : List Int → Int → Ls → Ls
  | [], _, st => st
  | n :: l, t, st => endL c l (t + 1) (stpL c st n t)
theorem runL_snoc (c : Lc) (n : Int) : ∀ (l : List Int) (t : Int) (st : Ls), runL c (l ++ [n]) t st = runL c l t st ++ [(endL c (l ++ [n]) t st).l]
  | [], t, st => rfl
  | x :: l, t, st => by
    show (stpL c st x t).l :: runL c (l ++ [n]) (t + 1) (stpL c st x t) = (stpL c st x t).l :: (runL c l (t + 1) (stpL c st x t) ++ [(endL c (l ++ [n]) (t + 1) (stpL c st x t)).l])
    rw [runL_snoc c n l]
theorem endL_snoc (c : Lc) (n : Int) : ∀ (l : List Int) (t : Int) (st : Ls), endL c (l ++ [n]) t st = stpL c (endL c l t st) n (t + l.length)
  | [], t, st => by
    show stpL c st n t = stpL c st n (t + (0 : Nat))
    simp
  | x :: l, t, st => by
    show endL c (l ++ [n]) (t + 1) (stpL c st x t) = stpL c (endL c l (t + 1) (stpL c st x t)) n (t + (l.length + 1 : Nat))
    rw [endL_snoc c n l, show t + 1 + (l.length : Int) = t + ((l.length + 1 : Nat) : Int) by omega]
theorem runL_len (c : Lc) : ∀ (l : List Int) (t : Int) (st : Ls), (runL c l t st).length = l.length
  | [], _, _ => rfl
  | x :: l, t, st => by
    show (_ :: _).length = _
    rw [List.length_cons, List.length_cons, runL_len c l]
/-- what Run tells -/
def toldL (c : Lc) (l : List Int) : List Int := if chkLv c = 0 then runL c l 1 newLv else []
theorem app_i64 {w : World} {ops : Array Oper} {rest : List Oper} {o : Oper} {a : Act} {Q : Exit → Act → World → Prop} (hgd : o.guard = none) (s x : Operand)
    (ho : o.op = .call { callee := .builtin .append, args := #[s, x], argTypes := #[43, 43] }) (B : Nat) (l : List Int) (v : Value) (tx : Int) (ad : Addr)
    (hs : a.eval s = v) (hown : OwnI w B v l) (hx : a.eval x = .slice (some ad) 1 1) (hc : w.cell? ad = some (.int .i64 tx)) (hl : l.length ≤ 1000000000) (hB : B ≤ w.heap.size)
    (h : ∀ v' w', OwnI w' B v' (l ++ [tx]) → Below B w w' → wpList Try.prog ops Q rest (a.put o.dst v') w') : wpList Try.prog ops Q (o :: rest) a w := by
  obtain ⟨i0, hi, hz0, hz1, hz2⟩ := info_parts info_int
  refine wpList_append_own w hgd s x 43 ho B 3 i0 (.int .i64 0) 1 8 Try.underlying43 hi hz0 hz1 hz2 rfl (by decide) v l.length (l.map (Value.int .i64)) hs hown ad 1 1 [Value.int .i64 tx] hx rfl (fun j u hj => ?_) (by simp [Value.oneCell']) (by unfold maxLen; omega) (by omega) hB ?_
  · cases j with
    | zero =>
      cases hj
      exact hc
    | succ j => cases hj
  · intro v' w' h2 h3 _
    refine h v' w' ?_ ((Below.refl B w).grown h3 hB (fun j hj => (World.ownsRow.lt hown j hj).1))
    show w'.ownsRow _ _ _ _ (l ++ [tx]).length ((l ++ [tx]).map (Value.int .i64))
    rw [List.length_append, List.map_append]
    exact h2
theorem Cf7.far {W w1 : World} {n b : Nat} {c : Lc} (h : Cf7 W b c) (hb : Below n W w1) (hn : b < n) : Cf7 w1 b c := by
  have k : ∀ o, w1.cell? ⟨b, o, none⟩ = W.cell? ⟨b, o, none⟩ := fun o => hb.cell (p := ⟨b, o, none⟩) hn
  obtain ⟨h0, h1, h2, h3, h4, h5, h6⟩ := h
  exact ⟨(k _).trans h0, (k _).trans h1, (k _).trans h2, (k _).trans h3, (k _).trans h4, (k _).trans h5, (k _).trans h6⟩
theorem Rs3.far {W w1 : World} {n b : Nat} {st : Ls} (h : Rs3 W b st) (hb : Below n W w1) (hn : b < n) : Rs3 w1 b st :=
  ⟨⟨(hb.cell (p := ⟨b, 0, none⟩) hn).trans h.1.1, (hb.cell (p := ⟨b, 1, none⟩) hn).trans h.1.2.1, (hb.cell (p := ⟨b, 2, none⟩) hn).trans h.1.2.2⟩, (hb.frozen (p := ⟨b, 0, none⟩) hn).trans h.2.1, (hb.frozen (p := ⟨b, 1, none⟩) hn).trans h.2.2.1, (hb.frozen (p := ⟨b, 2, none⟩) hn).trans h.2.2.2⟩
/-- the conf, the state and what was told so far -/
def Rn16 (w W : World) (q : Nat) (c : Lc) (s : Ls) (o : Value) (l : List Int) : Prop := Cf7 W w.heap.size c ∧ Rs3 W q s ∧ OwnI W (q + 1) o l ∧ Below w.heap.size w W ∧ w.heap.size < q ∧ q < W.heap.size
theorem Rn16.call {w W w1 : World} {q : Nat} {c : Lc} {s : Ls} {o : Value} {l : List Int} (h : Rn16 w W q c s o l) (hb : Below W.heap.size W w1) : Rn16 w w1 q c s o l :=
  ⟨h.1.call hb, h.2.1.call hb, h.2.2.1.call hb, h.2.2.2.1.trans (hb.mono h.2.2.2.1.size), h.2.2.2.2.1, Nat.lt_of_lt_of_le h.2.2.2.2.2 hb.size⟩
theorem Rn16.put {w W : World} {q : Nat} {c : Lc} {s : Ls} {o : Value} {l : List Int} (h : Rn16 w W q c s o l) (s2 : Ls) :
    Rn16 w (((W.setCell ⟨q, 0, none⟩ (.int .i64 s2.l)).setCell ⟨q, 1, none⟩ (.int .i64 s2.s)).setCell ⟨q, 2, none⟩ (.int .i64 s2.w)) q c s2 o l := by
  obtain ⟨⟨x0, x1, x2, x3, x4, x5, x6⟩, ⟨⟨y0, y1, y2⟩, g0, g1, g2⟩, HO, hB, h1, h2⟩ := h
  have hne : w.heap.size ≠ q := by omega
  have hne2 : q ≠ w.heap.size := by omega
  have k : ∀ (W : World) (o' : Nat) (u : Value), OwnI W (q + 1) o l → OwnI (W.setCell ⟨q, o', none⟩ u) (q + 1) o l := fun W o' u h => ownsRow_setCell_below h (a := ⟨q, o', none⟩) (Nat.lt_succ_self q) u
  exact ⟨by simp [Cf7, go_sem, *], by simp [Rs3, St3, go_sem, *], k _ _ _ (k _ _ _ (k _ _ _ HO)), ((hB.setCell (Nat.le_of_lt h1) _).setCell (Nat.le_of_lt h1) _).setCell (Nat.le_of_lt h1) _, h1, by simpa using h2⟩
set_option maxRecDepth 100000 in
set_option maxHeartbeats 8000000 in
theorem lrun_any (c : Lc) (v : Value) (l : List Int) (w : World) (hv : IsI w v l) (hl : l.length ≤ 1000000) :
    Calls Try.prog 20 #[cfV c, v] w fun e w' => ∃ o, e = .returned o ∧ OwnI w' w.heap.size o (toldL c l) ∧ Below w.heap.size w w' := by
  obtain ⟨p, cap, rfl, hp⟩ := hv
  have HP := Lib.hid hp
  have cc := Lib.hid (fun W => lcheck_any c W)
  have cn := Lib.hid (fun W => lnew_any W)
  clear hp
  simp only [cfV, lsV] at *
  go_enter Try.func20, Try.ntmps20
  go_wp2_with fail
  refine (cn.out _).mono ?_; rintro e w1 ⟨rfl, hb⟩
  go_upto_region 3 with fail
  refine gen_world (F := fun W => ∃ q, q = w1.heap.size ∧ Rn16 w W q c newLv (.slice none 0 0) []) ⟨w1.heap.size, rfl, ?_⟩ (fun W hF => ?_)
  · have hC : Cf7 w1 w.heap.size c := (show Cf7 (w.alloc (.cells #[.int .i64 c.u0, .int .i64 c.u1, .int .i64 c.u2, .int .i64 c.d0, .int .i64 c.d1, .int .i64 c.d2, .int .i64 c.h] 24)) w.heap.size c by simp [Cf7, go_sem]).call hb
    have hlt := hC.lt
    obtain ⟨x0, x1, x2, x3, x4, x5, x6⟩ := hC
    have hne : w.heap.size ≠ w1.heap.size := by omega
    exact ⟨by simp [Cf7, go_sem, *], by simp [Rs3, St3, go_sem, newLv], OwnI.nil _ _, by (repeat (first | (with_reducible exact Below.refl _ _) | ((with_reducible refine below_alloc ?_ ?_ _); · (first | omega | (simp; done) | (simp; omega))) | ((with_reducible refine below_setCell ?_ ?_ _); · (first | omega | (simp; done) | (simp; omega))) | (with_reducible refine Below.drew ?_) | (with_reducible refine below_drewN ?_ _) | ((with_reducible refine below_call (by assumption) ?_ ?_); · (first | omega | (simp; done) | (simp; omega))))), hlt, by simp⟩
  obtain ⟨q, hq, T⟩ := hF
  rw [← hq]
  clear cn hq hb
  by_cases hc : chkLv c = 0
  case neg =>
    have HV : Hid (toldL c l = []) := Lib.hid (if_neg hc)
    obtain ⟨⟨x0, x1, x2, x3, x4, x5, x6⟩, -, -, hB, -, -⟩ := T
    generalize chkLv c = ce at cc hc
    have hce : (ce == 0) = false := by simpa using hc
    clear hc
    go_wp2
    refine wp_loop_rounds 1 ?_
    rw [rounds_succ]
    by_cases h0 : 0 < l.length
    · have h0' : (0 : Int) < l.length := by omega
      have h0d : decide ((0 : Int) < l.length) = true := decide_eq_true h0'
      go_wp2_with fail
      refine (cc.out _).mono ?_; rintro e w2 ⟨rfl, hb2⟩
      go_wp2
      go_ret
      exact ⟨_, rfl, by rw [show toldL c l = _ from HV.out]; exact OwnI.nil _ _, hB.trans (hb2.mono hB.size)⟩
    · have h0' : ¬ (0 : Int) < l.length := by omega
      have h0d : decide ((0 : Int) < l.length) = false := decide_eq_false h0'
      go_wp2
      go_ret
      exact ⟨_, rfl, by rw [show toldL c l = _ from HV.out]; exact OwnI.nil _ _, hB⟩
  have HV : Hid (toldL c l = runL c l 1 newLv) := Lib.hid (if_pos hc)
  rw [hc] at cc
  clear hc
  have HT := Lib.hid T
  clear T
  go_wp2
  go_loopw [5, 7] (fun o i wr => ∃ k : Nat, i = .int .i64 k ∧ k ≤ l.length ∧ Hid (Rn16 w wr q c (endL c (l.take k) 1 newLv) o (runL c (l.take k) 1 newLv))) (fun o i _ => l.length - (intOf i).toNat)
  case atStart => exact ⟨0, rfl, Nat.zero_le _, HT⟩
  case round =>
    clear HT
    obtain ⟨k, rfl, hk, HT⟩ := hrel
    by_cases hlt : k < l.length
    · have hlt' : (k : Int) < l.length := by omega
      have hsn := Lib.hid (runL_snoc c l[k] (l.take k) 1 newLv)
      have hen := Lib.hid (endL_snoc c l[k] (l.take k) 1 newLv)
      have hln := Lib.hid (runL_len c (l.take k) 1 newLv)
      have htk := Lib.hid (List.take_succ_eq_append_getElem hlt)
      obtain ⟨b1, o1, rfl, d1⟩ := HP.out k hlt
      have hb1 : b1 < w.heap.size := World.block_lt_of_cell? _ _ d1
      have hw : IntKind.i64.wrap ((k : Int) + 1) = ((k + 1 : Nat) : Int) := by rw [IntWalk.i64_in _ (by omega)]; omega
      generalize hx : l[k] = x at d1 hsn hen htk
      have hk1 : (1 : Int) + ((l.take k).length : Int) = ((k + 1 : Nat) : Int) := by rw [List.length_take]; omega
      rw [hk1] at hen
      generalize hs : endL c (l.take k) 1 newLv = s at HT hen
      have c0 := Lib.hid (fun W => lstep_any c s x ((k + 1 : Nat) : Int) W)
      have hst : Hid (stpL c s x ((k + 1 : Nat) : Int) = endL c (l.take (k + 1)) 1 newLv) := Lib.hid (by rw [htk.out, hen.out])
      have hrn : Hid (runL c (l.take (k + 1)) 1 newLv = runL c (l.take k) 1 newLv ++ [(endL c (l.take (k + 1)) 1 newLv).l]) := Lib.hid (by rw [htk.out]; exact hsn.out)
      rw [hst.out] at c0
      generalize hs2 : endL c (l.take (k + 1)) 1 newLv = s2 at c0 hrn hst
      simp only [cfV, lsV] at c0
      obtain ⟨⟨x0, x1, x2, x3, x4, x5, x6⟩, -, -, -, -, -⟩ := HT.out
      go_wp2_with fail
      refine (cc.out _).mono ?_; rintro e w2 ⟨rfl, hb2⟩
      clear x0 x1 x2 x3 x4 x5 x6
      have HT2 := Lib.hid (show Rn16 w w2 q c s u5 (runL c (l.take k) 1 newLv) from ⟨HT.out.1.call hb2, HT.out.2.1.call hb2, HT.out.2.2.1.call hb2, HT.out.2.2.2.1.trans (hb2.mono HT.out.2.2.2.1.size), HT.out.2.2.2.2.1, Nat.lt_of_lt_of_le HT.out.2.2.2.2.2 hb2.size⟩)
      clear HT hb2
      go_upto_region 6 with fail
      have hS := Lib.hid (fun W' (hb : Below w2.heap.size w2 W') => (show (Cf7 W' w.heap.size c ∧ Rs3 W' q s) ∧ W'.cell? ⟨b1, o1 + k, none⟩ = some (.int .i64 x) from ⟨⟨HT2.out.1.call hb, HT2.out.2.1.call hb⟩, ((HT2.out.2.2.2.1.trans (hb.mono HT2.out.2.2.2.1.size)).cell (p := ⟨b1, o1 + k, none⟩) hb1).trans d1⟩))
      have hT0 : Below w2.heap.size w2 w2.drew := Below.drew (Below.refl _ _)
      simp only [Cf7, Rs3, St3] at hS
      clear d1
      refine wp_region_tail_drew (l1 := [_, _, _, _, _, _, _, _, _]) (l2 := _) (S := fun W' => (((W'.cell? ⟨w.heap.size, 0, none⟩ = some (.int .i64 c.u0) ∧ W'.cell? ⟨w.heap.size, 1, none⟩ = some (.int .i64 c.u1) ∧ W'.cell? ⟨w.heap.size, 2, none⟩ = some (.int .i64 c.u2) ∧ W'.cell? ⟨w.heap.size, 3, none⟩ = some (.int .i64 c.d0) ∧ W'.cell? ⟨w.heap.size, 4, none⟩ = some (.int .i64 c.d1) ∧ W'.cell? ⟨w.heap.size, 5, none⟩ = some (.int .i64 c.d2) ∧ W'.cell? ⟨w.heap.size, 6, none⟩ = some (.int .i64 c.h)) ∧ (W'.cell? ⟨q, 0, none⟩ = some (.int .i64 s.l) ∧ W'.cell? ⟨q, 1, none⟩ = some (.int .i64 s.s) ∧ W'.cell? ⟨q, 2, none⟩ = some (.int .i64 s.w)) ∧ W'.frozen? ⟨q, 0, none⟩ = false ∧ W'.frozen? ⟨q, 1, none⟩ = false ∧ W'.frozen? ⟨q, 2, none⟩ = false) ∧ W'.cell? ⟨b1, o1 + k, none⟩ = some (.int .i64 x))) (by kernel_rfl) (by kernel_rfl) (hS.out _ (by assumption)) (fun hHeld => ?_)
      (refine wpAnyH_take (i := 0) (v := ?_) rfl (by kernel_rfl) (by kernel_rfl) (by kernel_rfl) (fun _ _ _ h => h) (Or.inl ⟨by rfl, ?_⟩) (by assumption) ?_; rotate_left 1; (focus (intro wz hz; (try dsimp only at hz); (try simp only [List.getElem_toArray, List.getElem_cons_succ, List.getElem_cons_zero]); go_simp; (try (rw [if_neg (by (try simp only [ByteArray.size_append]); omega)])); try (with_reducible rfl); done)))
      try simp only [Act.put, List.getElem_toArray, List.getElem_cons_succ, List.getElem_cons_zero, List.setIfInBounds_toArray, List.set_cons_zero, List.set_cons_succ]
      (refine wpAnyH_take (i := 1) (v := ?_) rfl (by kernel_rfl) (by kernel_rfl) (by kernel_rfl) (fun _ _ _ h => h) (Or.inl ⟨by rfl, ?_⟩) (by assumption) ?_; rotate_left 1; (focus (intro wz hz; (try dsimp only at hz); (try simp only [List.getElem_toArray, List.getElem_cons_succ, List.getElem_cons_zero]); go_simp; (try (rw [if_neg (by (try simp only [ByteArray.size_append]); omega)])); try (with_reducible rfl); done)))
      try simp only [Act.put, List.getElem_toArray, List.getElem_cons_succ, List.getElem_cons_zero, List.setIfInBounds_toArray, List.set_cons_zero, List.set_cons_succ]
      (refine wpAnyH_take (i := 2) (v := ?_) rfl (by kernel_rfl) (by kernel_rfl) (by kernel_rfl) (fun _ _ _ h => h) (Or.inl ⟨by rfl, ?_⟩) (by assumption) ?_; rotate_left 1; (focus (intro wz hz; (try dsimp only at hz); (try simp only [List.getElem_toArray, List.getElem_cons_succ, List.getElem_cons_zero]); go_simp; (try (rw [if_neg (by (try simp only [ByteArray.size_append]); omega)])); try (with_reducible rfl); done)))
      try simp only [Act.put, List.getElem_toArray, List.getElem_cons_succ, List.getElem_cons_zero, List.setIfInBounds_toArray, List.set_cons_zero, List.set_cons_succ]
      (refine wpAnyH_take (i := 3) (v := ?_) rfl (by kernel_rfl) (by kernel_rfl) (by kernel_rfl) (fun _ _ _ h => h) (Or.inl ⟨by rfl, ?_⟩) (by assumption) ?_; rotate_left 1; (focus (intro wz hz; (try dsimp only at hz); (try simp only [List.getElem_toArray, List.getElem_cons_succ, List.getElem_cons_zero]); go_simp; (try (rw [if_neg (by (try simp only [ByteArray.size_append]); omega)])); try (with_reducible rfl); done)))
      try simp only [Act.put, List.getElem_toArray, List.getElem_cons_succ, List.getElem_cons_zero, List.setIfInBounds_toArray, List.set_cons_zero, List.set_cons_succ]
      (refine wpAnyH_take (i := 6) (v := ?_) rfl (by kernel_rfl) (by kernel_rfl) (by kernel_rfl) (fun _ _ _ h => h) (Or.inl ⟨by rfl, ?_⟩) (by assumption) ?_; rotate_left 1; (focus (intro wz hz; (try dsimp only at hz); (try simp only [List.getElem_toArray, List.getElem_cons_succ, List.getElem_cons_zero]); go_simp; (try (rw [if_neg (by (try simp only [ByteArray.size_append]); omega)])); try (with_reducible rfl); done)))
      try simp only [Act.put, List.getElem_toArray, List.getElem_cons_succ, List.getElem_cons_zero, List.setIfInBounds_toArray, List.set_cons_zero, List.set_cons_succ]
      (refine wpAnyH_take (i := 4) (v := ?_) rfl (by kernel_rfl) (by kernel_rfl) (by kernel_rfl) (fun _ _ _ h => h) (Or.inl ⟨by rfl, ?_⟩) (by assumption) ?_; rotate_left 1; (focus (intro wz hz; (try dsimp only at hz); (try simp only [List.getElem_toArray, List.getElem_cons_succ, List.getElem_cons_zero]); go_simp; (try (rw [if_neg (by (try simp only [ByteArray.size_append]); omega)])); try (with_reducible rfl); done)))
      try simp only [Act.put, List.getElem_toArray, List.getElem_cons_succ, List.getElem_cons_zero, List.setIfInBounds_toArray, List.set_cons_zero, List.set_cons_succ]
      (refine wpAnyH_take (i := 7) (v := ?_) rfl (by kernel_rfl) (by kernel_rfl) (by kernel_rfl) (fun _ _ _ h => h) (Or.inl ⟨by rfl, ?_⟩) (by assumption) ?_; rotate_left 1; (focus (intro wz hz; (try dsimp only at hz); (try simp only [List.getElem_toArray, List.getElem_cons_succ, List.getElem_cons_zero]); go_simp; (try (rw [if_neg (by (try simp only [ByteArray.size_append]); omega)])); try (with_reducible rfl); done)))
      try simp only [Act.put, List.getElem_toArray, List.getElem_cons_succ, List.getElem_cons_zero, List.setIfInBounds_toArray, List.set_cons_zero, List.set_cons_succ]
      (refine wpAnyH_take (i := 5) (v := ?_) rfl (by kernel_rfl) (by kernel_rfl) (by kernel_rfl) (fun _ _ _ h => h) (Or.inl ⟨by rfl, ?_⟩) (by assumption) ?_; rotate_left 1; (focus (intro wz hz; (try dsimp only at hz); (try simp only [List.getElem_toArray, List.getElem_cons_succ, List.getElem_cons_zero]); go_simp; (try (rw [if_neg (by (try simp only [ByteArray.size_append]); omega)])); try (with_reducible rfl); done)))
      try simp only [Act.put, List.getElem_toArray, List.getElem_cons_succ, List.getElem_cons_zero, List.setIfInBounds_toArray, List.set_cons_zero, List.set_cons_succ]
      (refine wpAnyH_ready (rs := [8]) (by kernel_rfl) (by simp) ?_; refine AllReadyH.cons rfl (fun K hK => ?_) AllReadyH.nil; (try simp only [List.getElem_toArray, List.getElem_cons_succ, List.getElem_cons_zero]); go_simp; go_at_call 8; refine (c0.out _).mono ?_; rintro e wn8 ⟨rfl, hbn8⟩; have hT8 : Below w2.heap.size w2 wn8 := (by (repeat (first | (with_reducible exact Below.refl _ _) | ((with_reducible refine below_alloc ?_ ?_ _); · (first | omega | (simp; done) | (simp; omega))) | ((with_reducible refine below_setCell ?_ ?_ _); · (first | omega | (simp; done) | (simp; omega))) | (with_reducible refine Below.drew ?_) | (with_reducible refine below_drewN ?_ _) | ((with_reducible refine below_call (by assumption) ?_ ?_); · (first | omega | (simp; done) | (simp; omega)))))); (try (go_wp2_with fail)); refine hK.out _ _ (hS.out _ (by assumption)) (fun hHeld => ?_); clear hK K)
      try simp only [Act.put, List.getElem_toArray, List.getElem_cons_succ, List.getElem_cons_zero, List.setIfInBounds_toArray, List.set_cons_zero, List.set_cons_succ]
      refine wpAnyH_done (by kernel_rfl) ?_ _
      refine tail_go ?_
      clear hHeld
      have hHeld : True := trivial
      (refine wpAnyH_ready (rs := [9]) (by kernel_rfl) (by simp) ?_; refine AllReadyH.cons rfl (fun K hK => ?_) AllReadyH.nil; (try simp only [List.getElem_toArray, List.getElem_cons_succ, List.getElem_cons_zero]); (obtain ⟨⟨-, ⟨s0, s1, s3⟩, fz0, fz1, fz2⟩, -⟩ := hS.out _ hT8); go_simp; refine hK.out _ _ (trivial) (fun hHeld => ?_); clear hK K)
      try simp only [Act.put, List.getElem_toArray, List.getElem_cons_succ, List.getElem_cons_zero, List.setIfInBounds_toArray, List.set_cons_zero, List.set_cons_succ]
      refine wpAnyH_done (by kernel_rfl) ?_ _
      go_upto_region 7 with fail
      refine gen_world (F := fun W => Rn16 w W q c s2 u5 (runL c (l.take k) 1 newLv)) ((HT2.out.call hT8).put s2) (fun wy T => ?_)
      have hl2 : (runL c (l.take k) 1 newLv).length ≤ 1000000000 := by rw [hln.out, List.length_take]; omega
      obtain ⟨X, Y, HO, hB, hq1, hq2⟩ := T
      obtain ⟨⟨y0, y1, y2⟩, -⟩ := And.intro Y.1 Y.2
      clear hS hT0 hT8 hbn8 HT2 s0 s1 s3 fz0 fz1 fz2
      go_wp2_with (at_builtin; (refine app_i64 rfl _ _ rfl (q + 1) (runL c (l.take k) 1 newLv) _ s2.l ⟨wy.heap.size, 0, none⟩ rfl (HO.call (below_alloc (Nat.le_refl _) (Below.refl _ _) _)) rfl (by simp [go_sem]) hl2 (by simp; omega) ?_; intro v5 w5 hown hbel))
      have hb5 : Below (q + 1) wy w5 := (below_alloc (by omega) (Below.refl _ _) _).trans hbel
      go_roundw
      case rel => exact ⟨k + 1, by go_num, by omega, Lib.hid ⟨X.far hb5 (by omega), (by rw [hs2]; exact Y.far hb5 (by omega)), (by rw [hrn.out]; exact hown), hB.trans (hb5.mono (by omega)), hq1, Nat.lt_of_lt_of_le hq2 hb5.size⟩⟩
      case measure => simp [intOf]; omega
    · obtain rfl : k = l.length := by omega
      rw [List.take_length] at HT
      obtain ⟨-, -, HO, hB, hq1, hq2⟩ := HT.out
      go_wp2
      go_ret
      exact ⟨_, rfl, by rw [show toldL c l = _ from HV.out]; exact HO.mono (by omega), by (repeat (first | (with_reducible exact Below.refl _ _) | ((with_reducible refine below_alloc ?_ ?_ _); · (first | omega | (simp; done) | (simp; omega))) | ((with_reducible refine below_setCell ?_ ?_ _); · (first | omega | (simp; done) | (simp; omega))) | (with_reducible refine Below.drew ?_) | (with_reducible refine below_drewN ?_ _) | ((with_reducible refine below_call (by assumption) ?_ ?_); · (first | omega | (simp; done) | (simp; omega)))))⟩
end Go.Proofs.Ytjnonngnkkdmdaa
