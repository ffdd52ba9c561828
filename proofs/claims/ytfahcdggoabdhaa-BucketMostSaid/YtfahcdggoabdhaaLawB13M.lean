/- BucketMost: in any stretch of ticks no more are taken than the burst, and the rate times its ticks; none is refused while the level is one, and none is taken while it is none: the statement holds for every input. No condition. -/
import Derived.Test.YtfahcdggoabdhaaB13W
import Derived.Test.YtfahcdggoabdhaaLawOpen13
namespace Go.Proofs.Ytfahcdggoabdhaa
open Go.RowKit Go.ChangeShapes Go.WideShapes Go.ChangeAt Go.ChangeMaps
set_option linter.unusedVariables false
set_option linter.unusedSimpArgs false

theorem app_int {w : World} {ops : Array Oper} {rest : List Oper} {o : Oper} {a : Act} {Q : Exit → Act → World → Prop} (hgd : o.guard = none) (s x : Operand)
    (ho : o.op = .call { callee := .builtin .append, args := #[s, x], argTypes := #[47, 47] }) (B : Nat) (l : List Int) (v : Value) (tx : Int) (ad : Addr)
    (hs : a.eval s = v) (hown : OwnI w B v l) (hx : a.eval x = .slice (some ad) 1 1) (hc : w.cell? ad = some (.int .i64 tx)) (hl : l.length ≤ 1000000000) (hB : B ≤ w.heap.size)
    (h : ∀ v' w', OwnI w' B v' (l ++ [tx]) → Below B w w' → w.grownBy w' v.ownBlock → wpList Try.prog ops Q rest (a.put o.dst v') w') : wpList Try.prog ops Q (o :: rest) a w := by
  obtain ⟨i0, hi, hz0, hz1, hz2⟩ := info_parts info_int
  refine wpList_append_own w hgd s x 47 ho B 3 i0 (.int .i64 0) 1 8 Try.underlying47 hi hz0 hz1 hz2 rfl (by decide) v l.length (l.map (Value.int .i64)) hs hown ad 1 1 [Value.int .i64 tx] hx rfl (fun j u hj => ?_) (by simp [Value.oneCell']) (by unfold maxLen; omega) (by omega) hB ?_
  · cases j with
    | zero =>
      cases hj
      exact hc
    | succ j => cases hj
  · intro v' w' h2 h3 _
    refine h v' w' ?_ ((Below.refl B w).grown h3 hB (fun j hj => (World.ownsRow.lt hown j hj).1)) h3
    show w'.ownsRow _ _ _ _ (l ++ [tx]).length ((l ++ [tx]).map (Value.int .i64))
    rw [List.length_append, List.map_append]
    exact h2
theorem Bx2.grown {w w1 : World} {b : Nat} {x y : Int} {row : Option Nat} (h : Bx2 w b x y) (hg : w.grownBy w1 row) (hn : some b ≠ row) : Bx2 w1 b x y := by
  have e := hg.block b h.lt hn
  exact ⟨(World.cell?_of_block (w := w) (a := ⟨b, 0, none⟩) e).trans h.1, (World.cell?_of_block (w := w) (a := ⟨b, 1, none⟩) e).trans h.2⟩
theorem OwnI.alloc {w : World} {B : Nat} {v : Value} {l : List Int} (h : OwnI w B v l) (o : Obj) : OwnI (w.alloc o) B v l := h.call (below_alloc (Nat.le_refl _) (Below.refl _ _) o)
theorem OwnI.below {w : World} {B : Nat} {v : Value} {l : List Int} (h : OwnI w B v l) (a : Addr) (u : Value) (hb : a.block < B) : OwnI (w.setCell a u) B v l := ownsRow_setCell_below h (a := a) hb u
theorem most_step {B R T A now : Int} {l : List Int} (hh : Held B R l T A) (hf : finB B R T A = true) (h1 : A ≤ now) (h2 : now ≤ 1099511627776) :
    finB B R (tkT B R T A now 1) (tkA B R T A now 1) = true ∧ tkA B R T A now 1 ≤ now ∧ Held B R (if tkB B R T A now 1 = true then l ++ [now] else l) (tkT B R T A now 1) (tkA B R T A now 1) ∧
      (tkB B R T A now 1 = true → 1 ≤ lvlN B R T A now ∧ lvlN B R (tkT B R T A now 1) (tkA B R T A now 1) now = lvlN B R T A now - 1) ∧ (tkB B R T A now 1 = false → lvlN B R T A now ≤ 0) ∧ 0 ≤ lvlN B R T A now ∧ lvlN B R T A now ≤ B := by
  have hl := lvl_bd hf now
  have hfn := tk_fine (now := now) (n := 1) hf
  refine ⟨hfn, ?_, ?_, ?_, ?_, hl.1, hl.2⟩
  · unfold tkA
    split
    · rw [hld_in h1 h2]; exact Int.le_refl _
    · exact h1
  · cases ht : tkB B R T A now 1 with
    | true =>
      rw [if_pos rfl]
      exact hh.take hf h1 h2 ht
    | false =>
      obtain ⟨e1, e2⟩ := tk_no ht
      rw [e1, e2, if_neg (by decide)]
      exact hh
  · intro ht
    have e1 : tkT B R T A now 1 = lvlN B R T A now - 1 := if_pos ht
    have e2 : tkA B R T A now 1 = now := (if_pos ht).trans (hld_in h1 h2)
    have h3 : 1 ≤ lvlN B R T A now := by
      unfold tkB at ht
      rw [Bool.and_eq_true, decide_eq_true_iff] at ht
      exact ht.2.2
    rw [e1, e2] at hfn ⊢
    refine ⟨h3, ?_⟩
    generalize lvlN B R T A now = L at *
    unfold lvlN
    rw [if_pos hfn, hld_in (Int.le_refl _) h2, Int.sub_self, Int.mul_zero]
    omega
  · intro ht
    unfold tkB at ht
    rw [hf, Bool.true_and, decide_eq_false_iff_not] at ht
    omega
set_option maxRecDepth 100000 in
set_option maxHeartbeats 16000000 in
theorem bmost_walk (n0 n1 : Int) (v : Value) (l : List Int) (w : World) (h0 : 0 ≤ n0 ∧ n0 ≤ 255) (h1 : 0 ≤ n1 ∧ n1 ≤ 255) (hv : IsIk .u8 w v l) (hb8 : ∀ n ∈ l, 0 ≤ n ∧ n ≤ 255) :
    Calls Try.prog 5 #[.int .u8 n0, .int .u8 n1, v] w fun e w' => e = .returned (.bool true) ∧ Below w.heap.size w w' := by
  have aw := Lib.hid (fun W => awake_any W)
  obtain ⟨p, cap, rfl, hp⟩ := hv
  have HP := Lib.hid hp
  have H8 := Lib.hid hb8
  clear hp hb8
  by_cases hl : l.length ≤ 60
  case neg =>
    have hl' : (60 : Int) < l.length := by omega
    clear hl
    go_enter Try.func5, Try.ntmps5
    go_wp2_with fail
    refine (aw.out _).mono ?_; rintro e w1 ⟨rfl, hb1⟩
    go_wp2
    go_ret
    exact ⟨rfl, by (repeat (first | (with_reducible exact Below.refl _ _) | ((with_reducible refine below_alloc ?_ ?_ _); · (first | omega | (simp; done) | (simp; omega))) | ((with_reducible refine below_setCell ?_ ?_ _); · (first | omega | (simp; done) | (simp; omega))) | (with_reducible refine Below.drew ?_) | (with_reducible refine below_drewN ?_ _) | ((with_reducible refine below_call (by assumption) ?_ ?_); · (first | omega | (simp; done) | (simp; omega)))))⟩
  have hl' : ¬ (60 : Int) < l.length := by omega
  have e0 : IntKind.i64.wrap n0 = n0 := IntWalk.i64_in _ (by omega)
  have e1 : IntKind.i64.wrap n1 = n1 := IntWalk.i64_in _ (by omega)
  have eB : IntKind.i64.wrap (1 + n0) = 1 + n0 := IntWalk.i64_in _ (by omega)
  have cF := Lib.hid (fun W => bfull_any (1 + n0) n1 0 W)
  rw [show hldN 0 0 1099511627776 = 0 from by decide +kernel] at cF
  simp only [twV] at cF
  go_enter Try.func5, Try.ntmps5
  go_wp2_with fail
  refine (cF.out _).mono ?_; rintro e w1 ⟨rfl, hb1⟩
  have X0 : Bx2 w1 w.heap.size (1 + n0) n1 := Bx2.call (by simp [Bx2, go_sem]) hb1
  have B1 : Below w.heap.size w w1 := by (repeat (first | (with_reducible exact Below.refl _ _) | ((with_reducible refine below_alloc ?_ ?_ _); · (first | omega | (simp; done) | (simp; omega))) | ((with_reducible refine below_setCell ?_ ?_ _); · (first | omega | (simp; done) | (simp; omega))) | (with_reducible refine Below.drew ?_) | (with_reducible refine below_drewN ?_ _) | ((with_reducible refine below_call (by assumption) ?_ ?_); · (first | omega | (simp; done) | (simp; omega)))))
  have l0 := X0.lt
  go_upto_region 5 with fail
  refine gen_world (F := fun W => Bx2 W w.heap.size (1 + n0) n1 ∧ Rw2 W w1.heap.size (1 + n0) 0 ∧ Below w.heap.size w W ∧ w1.heap.size + 1 ≤ W.heap.size) ⟨X0.call (by (repeat (first | (with_reducible exact Below.refl _ _) | ((with_reducible refine below_alloc ?_ ?_ _); · (first | omega | (simp; done) | (simp; omega))) | ((with_reducible refine below_setCell ?_ ?_ _); · (first | omega | (simp; done) | (simp; omega))) | (with_reducible refine Below.drew ?_) | (with_reducible refine below_drewN ?_ _) | ((with_reducible refine below_call (by assumption) ?_ ?_); · (first | omega | (simp; done) | (simp; omega)))))), by simp [Rw2, Bx2, go_sem], B1.trans ((show Below w1.heap.size w1 _ by (repeat (first | (with_reducible exact Below.refl _ _) | ((with_reducible refine below_alloc ?_ ?_ _); · (first | omega | (simp; done) | (simp; omega))) | ((with_reducible refine below_setCell ?_ ?_ _); · (first | omega | (simp; done) | (simp; omega))) | (with_reducible refine Below.drew ?_) | (with_reducible refine below_drewN ?_ _) | ((with_reducible refine below_call (by assumption) ?_ ?_); · (first | omega | (simp; done) | (simp; omega)))))).mono B1.size), by simp⟩ (fun W hF => ?_)
  generalize w1.heap.size = bs at hF l0 ⊢
  clear X0 B1 hb1 cF
  obtain ⟨X, Y, hB, hz⟩ := hF
  have hB256 : 1 ≤ 1 + n0 ∧ 1 + n0 ≤ 256 := by omega
  generalize 1 + n0 = B at *
  clear e0 eB
  have hf0 : finB B n1 B 0 = true := fin_iff.2 ⟨⟨by omega, by omega⟩, by omega, by omega⟩
  go_wp2
  go_loopw [9, 10, 11] (fun v now i wr => ∃ (k : Nat) (N T A : Int) (at' : List Int), i = .int .i64 k ∧ now = .int .i64 N ∧ k ≤ l.length ∧ (0 ≤ N ∧ N ≤ 255 * k) ∧ at'.length ≤ k ∧ (∀ x ∈ at', 0 ≤ x) ∧ OwnI wr (bs + 1) v at' ∧ Hid (finB B n1 T A = true) ∧ A ≤ N ∧ Held B n1 at' T A ∧ Bx2 wr w.heap.size B n1 ∧ Rw2 wr bs T A ∧ Below w.heap.size w wr ∧ bs + 1 ≤ wr.heap.size) (fun _ _ i _ => l.length - (intOf i).toNat)
  case atStart => exact ⟨0, 0, B, 0, [], rfl, rfl, by omega, by omega, by simp, (fun x hx => by cases hx), OwnI.nil _ _, Lib.hid hf0, by omega, Held.start _ _ _ _, X, Y, hB, hz⟩
  case round =>
    obtain ⟨k, N, T, A, at', rfl, rfl, hk, hN, hlen, hnn, HO, hf, hAN, hheld, X1, Y1, hB1, hz1⟩ := hrel
    clear X Y hB hz hf0
    by_cases hlt : k < l.length
    · have hlt' : (k : Int) < l.length := by omega
      have hg := H8.out l[k] (List.getElem_mem hlt)
      obtain ⟨b1, o1, rfl, d1⟩ := HP.out k hlt
      have d2 : wr.cell? ⟨b1, o1 + k, none⟩ = some (.int .u8 l[k]) := (hB1.cell (p := ⟨b1, o1 + k, none⟩) (World.block_lt_of_cell? _ _ d1)).trans d1
      generalize l[k] = g at d2 hg
      clear d1
      have hk60 : k < 60 := by omega
      have eg : IntKind.i64.wrap g = g := IntWalk.i64_in _ (by omega)
      have eN : IntKind.i64.wrap (N + g) = N + g := IntWalk.i64_in _ (by omega)
      have hst := most_step hheld hf.out (show A ≤ N + g by omega) (by omega)
      have c1 := Lib.hid (fun W => blevel_any B n1 T A (N + g) W)
      have ct := Lib.hid (fun W => btake_any B n1 T A (N + g) 1 W)
      have c2 := Lib.hid (fun W => blevel_any B n1 (tkT B n1 T A (N + g) 1) (tkA B n1 T A (N + g) 1) (N + g) W)
      have c3 := Lib.hid (fun W => bfine_any B n1 (tkT B n1 T A (N + g) 1) (tkA B n1 T A (N + g) 1) W)
      rw [hst.1] at c3
      generalize tkT B n1 T A (N + g) 1 = T2 at hst ct c2 c3
      generalize tkA B n1 T A (N + g) 1 = A2 at hst ct c2 c3
      generalize tkB B n1 T A (N + g) 1 = is at hst ct
      generalize lvlN B n1 T A (N + g) = L at hst c1
      generalize lvlN B n1 T2 A2 (N + g) = L2 at hst c2
      simp only [twV] at c1 ct c2 c3
      have HST := Lib.hid hst
      have HHO := Lib.hid HO
      have HXY := Lib.hid (And.intro X1 Y1)
      clear hst HO hheld
      obtain ⟨x0, x1⟩ := X1
      obtain ⟨⟨y0, y1⟩, y2, y3⟩ := Y1
      go_wp2_with fail
      refine (c1.out _).mono ?_; rintro e w1 ⟨rfl, hb1⟩
      have B1 : Below wr.heap.size wr w1 := by (repeat (first | (with_reducible exact Below.refl _ _) | ((with_reducible refine below_alloc ?_ ?_ _); · (first | omega | (simp; done) | (simp; omega))) | ((with_reducible refine below_setCell ?_ ?_ _); · (first | omega | (simp; done) | (simp; omega))) | (with_reducible refine Below.drew ?_) | (with_reducible refine below_drewN ?_ _) | ((with_reducible refine below_call (by assumption) ?_ ?_); · (first | omega | (simp; done) | (simp; omega)))))
      have z1 := B1.size
      clear x0 x1 y0 y1 y2 y3 d2
      obtain ⟨⟨x0, x1⟩, ⟨y0, y1⟩, y2, y3⟩ := (⟨HXY.out.1.call B1, HXY.out.2.call B1⟩ : Bx2 w1 w.heap.size B n1 ∧ Rw2 w1 bs T A)
      go_wp2_with fail
      refine (ct.out _).mono ?_; rintro e w2 ⟨rfl, hb2⟩
      have B2 := below_call hb2 B1.size B1
      have z2 := B2.size
      clear x0 x1 y0 y1 y2 y3
      go_upto_region 13 with fail
      refine gen_world (F := fun V => Bx2 V w.heap.size B n1 ∧ Rw2 V bs T A ∧ Bx2 V w2.heap.size T2 A2 ∧ OwnI V (bs + 1) u9 at' ∧ Below w.heap.size w V ∧ bs + 1 ≤ V.heap.size) ⟨HXY.out.1.call (by (repeat (first | (with_reducible exact Below.refl _ _) | ((with_reducible refine below_alloc ?_ ?_ _); · (first | omega | (simp; done) | (simp; omega))) | ((with_reducible refine below_setCell ?_ ?_ _); · (first | omega | (simp; done) | (simp; omega))) | (with_reducible refine Below.drew ?_) | (with_reducible refine below_drewN ?_ _) | ((with_reducible refine below_call (by assumption) ?_ ?_); · (first | omega | (simp; done) | (simp; omega)))))), HXY.out.2.call (by (repeat (first | (with_reducible exact Below.refl _ _) | ((with_reducible refine below_alloc ?_ ?_ _); · (first | omega | (simp; done) | (simp; omega))) | ((with_reducible refine below_setCell ?_ ?_ _); · (first | omega | (simp; done) | (simp; omega))) | (with_reducible refine Below.drew ?_) | (with_reducible refine below_drewN ?_ _) | ((with_reducible refine below_call (by assumption) ?_ ?_); · (first | omega | (simp; done) | (simp; omega)))))), by simp [Bx2, go_sem], HHO.out.call (by (repeat (first | (with_reducible exact Below.refl _ _) | ((with_reducible refine below_alloc ?_ ?_ _); · (first | omega | (simp; done) | (simp; omega))) | ((with_reducible refine below_setCell ?_ ?_ _); · (first | omega | (simp; done) | (simp; omega))) | (with_reducible refine Below.drew ?_) | (with_reducible refine below_drewN ?_ _) | ((with_reducible refine below_call (by assumption) ?_ ?_); · (first | omega | (simp; done) | (simp; omega)))))), hB1.trans ((show Below wr.heap.size wr _ by (repeat (first | (with_reducible exact Below.refl _ _) | ((with_reducible refine below_alloc ?_ ?_ _); · (first | omega | (simp; done) | (simp; omega))) | ((with_reducible refine below_setCell ?_ ?_ _); · (first | omega | (simp; done) | (simp; omega))) | (with_reducible refine Below.drew ?_) | (with_reducible refine below_drewN ?_ _) | ((with_reducible refine below_call (by assumption) ?_ ?_); · (first | omega | (simp; done) | (simp; omega)))))).mono hB1.size), by simp; omega⟩ (fun V hF => ?_)
      have hrow : ∀ q, u9.ownBlock = some q → q < wr.heap.size := fun q hq => (World.ownsRow.lt HHO.out q hq).2
      have hbx : u9.ownBlock ≠ some w2.heap.size := fun e => by have := hrow _ e; omega
      generalize w2.heap.size = bx at hF hbx ⊢
      clear HXY HHO hrow B1 B2 z1 z2 hb1 hb2 hB1 hz1
      obtain ⟨X, Y, Z, HO, hB, hz⟩ := hF
      have HXZ : Hid (∀ w', Below V.heap.size V w' → Bx2 w' w.heap.size B n1 ∧ Rw2 w' bs T A ∧ Bx2 w' bx T2 A2) := Lib.hid (fun w' hb => ⟨X.call hb, Y.call hb, Z.call hb⟩)
      have HHO := Lib.hid HO
      clear HO
      go_cut [73] (fun c wx => c = .bool false ∧ Below V.heap.size V wx)
      case first =>
        have eL : IntKind.i64.wrap (L - 1) = L - 1 := IntWalk.i64_in _ (by have := HST.out.2.2.2.2.2; omega)
        obtain ⟨x0, x1⟩ := X
        obtain ⟨z0, z1⟩ := Z
        clear Y
        cases is with
        | true =>
          obtain ⟨hL1, rfl⟩ := HST.out.2.2.2.1 rfl
          have hL0 : 0 < L := by omega
          clear HST
          go_wp2_with fail
          refine (c2.out _).mono ?_; rintro e w1 ⟨rfl, hb1⟩
          have B1 : Below V.heap.size V w1 := by (repeat (first | (with_reducible exact Below.refl _ _) | ((with_reducible refine below_alloc ?_ ?_ _); · (first | omega | (simp; done) | (simp; omega))) | ((with_reducible refine below_setCell ?_ ?_ _); · (first | omega | (simp; done) | (simp; omega))) | (with_reducible refine Below.drew ?_) | (with_reducible refine below_drewN ?_ _) | ((with_reducible refine below_call (by assumption) ?_ ?_); · (first | omega | (simp; done) | (simp; omega)))))
          have zz1 := B1.size
          clear x0 x1 z0 z1
          obtain ⟨⟨x0, x1⟩, _, ⟨z0, z1⟩⟩ := HXZ.out _ B1
          go_wp2_with fail
          refine (c3.out _).mono ?_; rintro e w2 ⟨rfl, hb2⟩
          have B2 := below_call hb2 B1.size B1
          go_wp2
          go_meet
          exact ⟨rfl, B2⟩
        | false =>
          have hL0 : ¬ 0 < L := by have := HST.out.2.2.2.2.1 rfl; omega
          clear HST
          go_wp2_with fail
          refine (c3.out _).mono ?_; rintro e w1 ⟨rfl, hb1⟩
          have B1 : Below V.heap.size V w1 := by (repeat (first | (with_reducible exact Below.refl _ _) | ((with_reducible refine below_alloc ?_ ?_ _); · (first | omega | (simp; done) | (simp; omega))) | ((with_reducible refine below_setCell ?_ ?_ _); · (first | omega | (simp; done) | (simp; omega))) | (with_reducible refine Below.drew ?_) | (with_reducible refine below_drewN ?_ _) | ((with_reducible refine below_call (by assumption) ?_ ?_); · (first | omega | (simp; done) | (simp; omega)))))
          go_wp2
          go_meet
          exact ⟨rfl, B1⟩
      case rest =>
        obtain ⟨rfl, hV2⟩ := hcut
        clear X Y Z c1 ct c2 c3
        obtain ⟨hf2, hA2, hheld2, -, -, -, -⟩ := HST.out
        clear HST
        go_upto_if 74 with fail
        go_cut [9] (fun v' wx => ∃ v2 : Value, v2 = v' ∧ OwnI wx (bs + 1) v2 (if is = true then at' ++ [N + g] else at') ∧ (Bx2 wx w.heap.size B n1 ∧ Rw2 wx bs T A ∧ Bx2 wx bx T2 A2) ∧ Below w.heap.size w wx ∧ bs + 1 ≤ wx.heap.size)
        case first =>
          have hz3 := Nat.le_trans hz hV2.size
          have HO3 := HHO.out.call hV2
          obtain ⟨X, Y, Z⟩ := HXZ.out _ hV2
          cases is with
          | true =>
            go_wp2_with (at_builtin; (refine app_int rfl _ _ rfl (bs + 1) at' _ (N + g) _ rfl (HO3.alloc _) rfl (by simp [go_sem]) (by omega) (by simp; omega) ?_; intro v5 w5 hown hbel hgr))
            go_meet
            have hb5 := (below_alloc hz3 (Below.refl _ _) _).trans hbel
            exact ⟨_, rfl, by first | exact hown | (rw [if_pos rfl]; exact hown), ⟨X.far hb5 (by omega), Y.far hb5 (by omega), Bx2.grown (Bx2.call Z (below_alloc (Nat.le_refl _) (Below.refl _ _) _)) hgr (fun e => hbx e.symm)⟩, (hB.trans (hV2.mono hB.size)).trans (hb5.mono (by omega)), Nat.le_trans hz3 hb5.size⟩
          | false =>
            go_wp2
            go_meet
            exact ⟨_, rfl, by first | exact HO3 | (rw [if_neg (by decide)]; exact HO3), ⟨X, Y, Z⟩, hB.trans (hV2.mono hB.size), hz3⟩
        case rest =>
          obtain ⟨v2, rfl, HO, ⟨X, Y, Z⟩, hB3, hz3⟩ := hcut
          have hlen2 : (if is = true then at' ++ [N + g] else at').length ≤ k + 1 := by
            cases is
            · rw [if_neg (by decide)]; omega
            · rw [if_pos rfl, List.length_append, List.length_singleton]; omega
          have hnn2 : ∀ x ∈ (if is = true then at' ++ [N + g] else at'), 0 ≤ x := by
            cases is
            · rw [if_neg (by decide)]; exact hnn
            · rw [if_pos rfl]
              intro x hx
              rcases List.mem_append.1 hx with hx | hx
              · exact hnn x hx
              · rw [List.mem_singleton.1 hx]; omega
          generalize (if is = true then at' ++ [N + g] else at') = at2 at hheld2 HO hlen2 hnn2
          clear hnn hlen hB hz hV2 HHO HXZ hbx
          have HR := HO.reads
          obtain ⟨p2, cap2, rfl, hp2⟩ := HR
          have HP2 := Lib.hid hp2
          clear hp2
          go_upto_region 17 with fail
          refine gen_world (F := fun V2 => (OwnI V2 (bs + 1) (.slice p2 at2.length cap2) at2 ∧ (Bx2 V2 w.heap.size B n1 ∧ Rw2 V2 bs T A ∧ Bx2 V2 bx T2 A2) ∧ Below w.heap.size w V2 ∧ bs + 1 ≤ V2.heap.size) ∧ ∀ j (h : j < at2.length), ∃ b off, p2 = some ⟨b, off, none⟩ ∧ V2.cell? ⟨b, off + j, none⟩ = some (.int .i64 at2[j])) ⟨⟨HO, ⟨X, Y, Z⟩, hB3, hz3⟩, HP2.out⟩ (fun V2 hF => ?_)
          clear HO X Y Z hB3 hz3 HP2
          obtain ⟨⟨HO, ⟨X, Y, Z⟩, hB3, hz3⟩, hp2⟩ := hF
          have HP2 := Lib.hid hp2
          have HHO := Lib.hid HO
          have HXZ := Lib.hid (And.intro X (And.intro Y Z))
          have HH2 := Lib.hid hheld2
          have HN2 := Lib.hid hnn2
          clear hp2 HO X Y Z hheld2 hnn2
          have cm := Lib.hid (fun t W => bmost_any B n1 (N + g - t) W)
          simp only [twV] at cm
          go_wp2
          go_loopw [15] (fun kk wr2 => ∃ j : Nat, kk = .int .i64 j ∧ j ≤ at2.length ∧ Fr V2 wr2) (fun kk _ => at2.length - (intOf kk).toNat)
          case atStart => exact ⟨0, rfl, by omega, Fr.refl _⟩
          case round =>
            obtain ⟨j, rfl, hj, hFr⟩ := hrel
            by_cases hjl : j < at2.length
            · have hjl' : (j : Int) < at2.length := by omega
              have hmost := HH2.out.most hf2 hA2 hjl
              have ht := HH2.out j hjl
              have ht0 := HN2.out at2[j] (List.getElem_mem hjl)
              have cmj := Lib.hid (cm.out at2[j])
              obtain ⟨b2, o2, rfl, d3⟩ := HP2.out j hjl
              have hS : ∀ w', Fr V2 w' → (w'.cell? ⟨w.heap.size, 0, none⟩ = some (.int .i64 B) ∧ w'.cell? ⟨w.heap.size, 1, none⟩ = some (.int .i64 n1)) ∧ w'.cell? ⟨b2, o2 + j, none⟩ = some (.int .i64 at2[j]) := fun w' hb => ⟨HXZ.out.1.call hb, (Below.cell hb (p := ⟨b2, o2 + j, none⟩) (World.block_lt_of_cell? _ _ d3)).trans d3⟩
              generalize at2[j] = t at hmost ht ht0 cmj hS
              have hmost := hmost (by omega)
              generalize mostN B n1 (N + g - t) = M at hmost cmj
              have et : IntKind.i64.wrap (N + g - t) = N + g - t := IntWalk.i64_in _ (by omega)
              have el : IntKind.i64.wrap ((at2.length : Int) - j) = (at2.length : Int) - j := IntWalk.i64_in _ (by omega)
              have hM : ¬ M < (at2.length : Int) - j := by omega
              clear d3 ht
              have hF0 : Fr V2 _ := Below.drew hFr
              go_wp2
              refine wp_region_held_drew (S := fun w' => (w'.cell? ⟨w.heap.size, 0, none⟩ = some (.int .i64 B) ∧ w'.cell? ⟨w.heap.size, 1, none⟩ = some (.int .i64 n1)) ∧ w'.cell? ⟨b2, o2 + j, none⟩ = some (.int .i64 t)) (by kernel_rfl) (hS _ (by assumption)) (fun hHeld => ?_)
              (refine wpAnyH_take (i := 0) (v := ?_) rfl (by kernel_rfl) (by kernel_rfl) (by kernel_rfl) (fun _ _ _ h => h) (Or.inl ⟨by rfl, ?_⟩) (by assumption) ?_; rotate_left 1; (focus (intro wz hz; (try dsimp only at hz); (try simp only [List.getElem_toArray, List.getElem_cons_succ, List.getElem_cons_zero]); go_simp; (try (rw [if_neg (by (try simp only [ByteArray.size_append]); omega)])); try (with_reducible rfl); done)))
              try simp only [Act.put, List.getElem_toArray, List.getElem_cons_succ, List.getElem_cons_zero, List.setIfInBounds_toArray, List.set_cons_zero, List.set_cons_succ]
              (refine wpAnyH_take (i := 2) (v := ?_) rfl (by kernel_rfl) (by kernel_rfl) (by kernel_rfl) (fun _ _ _ h => h) (Or.inl ⟨by rfl, ?_⟩) (by assumption) ?_; rotate_left 1; (focus (intro wz hz; (try dsimp only at hz); (try simp only [List.getElem_toArray, List.getElem_cons_succ, List.getElem_cons_zero]); go_simp; (try (rw [if_neg (by (try simp only [ByteArray.size_append]); omega)])); try (with_reducible rfl); done)))
              try simp only [Act.put, List.getElem_toArray, List.getElem_cons_succ, List.getElem_cons_zero, List.setIfInBounds_toArray, List.set_cons_zero, List.set_cons_succ]
              (refine wpAnyH_take (i := 4) (v := ?_) rfl (by kernel_rfl) (by kernel_rfl) (by kernel_rfl) (fun _ _ _ h => h) (Or.inl ⟨by rfl, ?_⟩) (by assumption) ?_; rotate_left 1; (focus (intro wz hz; (try dsimp only at hz); (try simp only [List.getElem_toArray, List.getElem_cons_succ, List.getElem_cons_zero]); go_simp; (try (rw [if_neg (by (try simp only [ByteArray.size_append]); omega)])); try (with_reducible rfl); done)))
              try simp only [Act.put, List.getElem_toArray, List.getElem_cons_succ, List.getElem_cons_zero, List.setIfInBounds_toArray, List.set_cons_zero, List.set_cons_succ]
              (refine wpAnyH_take (i := 5) (v := ?_) rfl (by kernel_rfl) (by kernel_rfl) (by kernel_rfl) (fun _ _ _ h => h) (Or.inl ⟨by rfl, ?_⟩) (by assumption) ?_; rotate_left 1; (focus (intro wz hz; (try dsimp only at hz); (try simp only [List.getElem_toArray, List.getElem_cons_succ, List.getElem_cons_zero]); go_simp; (try (rw [if_neg (by (try simp only [ByteArray.size_append]); omega)])); try (with_reducible rfl); done)))
              try simp only [Act.put, List.getElem_toArray, List.getElem_cons_succ, List.getElem_cons_zero, List.setIfInBounds_toArray, List.set_cons_zero, List.set_cons_succ]
              (refine wpAnyH_take (i := 6) (v := ?_) rfl (by kernel_rfl) (by kernel_rfl) (by kernel_rfl) (fun _ _ _ h => h) (Or.inl ⟨by rfl, ?_⟩) (by assumption) ?_; rotate_left 1; (focus (intro wz hz; (try dsimp only at hz); (try simp only [List.getElem_toArray, List.getElem_cons_succ, List.getElem_cons_zero]); go_simp; (try (rw [if_neg (by (try simp only [ByteArray.size_append]); omega)])); try (with_reducible rfl); done)))
              try simp only [Act.put, List.getElem_toArray, List.getElem_cons_succ, List.getElem_cons_zero, List.setIfInBounds_toArray, List.set_cons_zero, List.set_cons_succ]
              (refine wpAnyH_take (i := 7) (v := ?_) rfl (by kernel_rfl) (by kernel_rfl) (by kernel_rfl) (fun _ _ _ h => h) (Or.inl ⟨by rfl, ?_⟩) (by assumption) ?_; rotate_left 1; (focus (intro wz hz; (try dsimp only at hz); (try simp only [List.getElem_toArray, List.getElem_cons_succ, List.getElem_cons_zero]); go_simp; (try (rw [if_neg (by (try simp only [ByteArray.size_append]); omega)])); try (with_reducible rfl); done)))
              try simp only [Act.put, List.getElem_toArray, List.getElem_cons_succ, List.getElem_cons_zero, List.setIfInBounds_toArray, List.set_cons_zero, List.set_cons_succ]
              (refine wpAnyH_take (i := 1) (v := ?_) rfl (by kernel_rfl) (by kernel_rfl) (by kernel_rfl) (fun _ _ _ h => h) (Or.inl ⟨by rfl, ?_⟩) (by assumption) ?_; rotate_left 1; (focus (intro wz hz; (try dsimp only at hz); (try simp only [List.getElem_toArray, List.getElem_cons_succ, List.getElem_cons_zero]); go_simp; (try (rw [if_neg (by (try simp only [ByteArray.size_append]); omega)])); try (with_reducible rfl); done)))
              try simp only [Act.put, List.getElem_toArray, List.getElem_cons_succ, List.getElem_cons_zero, List.setIfInBounds_toArray, List.set_cons_zero, List.set_cons_succ]
              (refine wpAnyH_take (i := 8) (v := ?_) rfl (by kernel_rfl) (by kernel_rfl) (by kernel_rfl) (fun _ _ _ h => h) (Or.inl ⟨by rfl, ?_⟩) (by assumption) ?_; rotate_left 1; (focus (intro wz hz; (try dsimp only at hz); (try simp only [List.getElem_toArray, List.getElem_cons_succ, List.getElem_cons_zero]); go_simp; (try (rw [if_neg (by (try simp only [ByteArray.size_append]); omega)])); try (with_reducible rfl); done)))
              try simp only [Act.put, List.getElem_toArray, List.getElem_cons_succ, List.getElem_cons_zero, List.setIfInBounds_toArray, List.set_cons_zero, List.set_cons_succ]
              (refine wpAnyH_take (i := 3) (v := ?_) rfl (by kernel_rfl) (by kernel_rfl) (by kernel_rfl) (fun _ _ _ h => h) (Or.inl ⟨by rfl, ?_⟩) (by assumption) ?_; rotate_left 1; (focus (intro wz hz; (try dsimp only at hz); (try simp only [List.getElem_toArray, List.getElem_cons_succ, List.getElem_cons_zero]); go_simp; (try (rw [if_neg (by (try simp only [ByteArray.size_append]); omega)])); try (with_reducible rfl); done)))
              try simp only [Act.put, List.getElem_toArray, List.getElem_cons_succ, List.getElem_cons_zero, List.setIfInBounds_toArray, List.set_cons_zero, List.set_cons_succ]
              (refine wpAnyH_take (i := 9) (v := ?_) rfl (by kernel_rfl) (by kernel_rfl) (by kernel_rfl) (fun _ _ _ h => h) (Or.inl ⟨by rfl, ?_⟩) (by assumption) ?_; rotate_left 1; (focus (intro wz hz; (try dsimp only at hz); (try simp only [List.getElem_toArray, List.getElem_cons_succ, List.getElem_cons_zero]); go_simp; (try (rw [if_neg (by (try simp only [ByteArray.size_append]); omega)])); try (with_reducible rfl); done)))
              try simp only [Act.put, List.getElem_toArray, List.getElem_cons_succ, List.getElem_cons_zero, List.setIfInBounds_toArray, List.set_cons_zero, List.set_cons_succ]
              (refine wpAnyH_take (i := 10) (v := ?_) rfl (by kernel_rfl) (by kernel_rfl) (by kernel_rfl) (fun _ _ _ h => h) (Or.inl ⟨by rfl, ?_⟩) (by assumption) ?_; rotate_left 1; (focus (intro wz hz; (try dsimp only at hz); (try simp only [List.getElem_toArray, List.getElem_cons_succ, List.getElem_cons_zero]); go_simp; (try (rw [if_neg (by (try simp only [ByteArray.size_append]); omega)])); try (with_reducible rfl); done)))
              try simp only [Act.put, List.getElem_toArray, List.getElem_cons_succ, List.getElem_cons_zero, List.setIfInBounds_toArray, List.set_cons_zero, List.set_cons_succ]
              (refine wpAnyH_ready (rs := [11]) (by kernel_rfl) (by simp) ?_; refine AllReadyH.cons rfl (fun K hK => ?_) AllReadyH.nil; (try simp only [List.getElem_toArray, List.getElem_cons_succ, List.getElem_cons_zero]); go_simp; go_at_call 23; refine (cmj.out _).mono ?_; rintro e wn11 ⟨rfl, hbn11⟩; have hTn11 := Fr.call (by assumption) hbn11; (try (go_wp2_with fail)); refine hK.out _ _ (hS _ (by assumption)) (fun hHeld => ?_); clear hK K)
              try simp only [Act.put, List.getElem_toArray, List.getElem_cons_succ, List.getElem_cons_zero, List.setIfInBounds_toArray, List.set_cons_zero, List.set_cons_succ]
              (refine wpAnyH_take (i := 12) (v := ?_) rfl (by kernel_rfl) (by kernel_rfl) (by kernel_rfl) (fun _ _ _ h => h) (Or.inl ⟨by rfl, ?_⟩) (by assumption) ?_; rotate_left 1; (focus (intro wz hz; (try dsimp only at hz); (try simp only [List.getElem_toArray, List.getElem_cons_succ, List.getElem_cons_zero]); go_simp; (try (rw [if_neg (by (try simp only [ByteArray.size_append]); omega)])); try (with_reducible rfl); done)))
              try simp only [Act.put, List.getElem_toArray, List.getElem_cons_succ, List.getElem_cons_zero, List.setIfInBounds_toArray, List.set_cons_zero, List.set_cons_succ]
              refine wpAnyH_done (by kernel_rfl) ?_ _
              clear hHeld
              go_wp2
              go_roundw
              case rel => exact ⟨j + 1, by go_num, by omega, hTn11⟩
              case measure => simp [intOf]; omega
            · obtain rfl : j = at2.length := by omega
              have hjl' : ¬ ((at2.length : Int) < at2.length) := by omega
              obtain ⟨X, Y, Z⟩ := HXZ.out
              obtain ⟨x0, x1⟩ := X.call hFr
              obtain ⟨⟨y0, y1⟩, f0, f1⟩ := Y.call hFr
              obtain ⟨z0, z1⟩ := Z.call hFr
              have hz4 := Nat.le_trans hz3 hFr.size
              have hB4 := hB3.trans (hFr.mono hB3.size)
              have HO4 := HHO.out.call hFr
              go_wp2
              go_roundw
              case rel =>
                refine ⟨k + 1, N + g, T2, A2, at2, by go_num, rfl, by omega, by omega, hlen2, HN2.out, (HO4.below _ _ (by show bs < _; omega)).below _ _ (by show bs < _; omega), Lib.hid hf2, hA2, HH2.out, ?_, ?_, by (repeat (first | (with_reducible exact Below.refl _ _) | ((with_reducible refine below_alloc ?_ ?_ _); · (first | omega | (simp; done) | (simp; omega))) | ((with_reducible refine below_setCell ?_ ?_ _); · (first | omega | (simp; done) | (simp; omega))) | (with_reducible refine Below.drew ?_) | (with_reducible refine below_drewN ?_ _) | ((with_reducible refine below_call (by assumption) ?_ ?_); · (first | omega | (simp; done) | (simp; omega))))), by simpa using hz4⟩
                · have hne : w.heap.size ≠ bs := by omega
                  simp [Bx2, go_sem, x0, x1, hne]
                · simp [Rw2, Bx2, go_sem, y0, y1, f0, f1]
              case measure => simp [intOf]; omega
    · obtain rfl : k = l.length := by omega
      have hlt' : ¬ ((l.length : Int) < l.length) := by omega
      go_wp2_with fail
      refine (aw.out _).mono ?_; rintro e w1 ⟨rfl, hb1⟩
      have B2 := below_call hb1 hB1.size hB1
      go_wp2
      go_ret
      exact ⟨rfl, B2⟩
set_option maxRecDepth 100000 in
theorem bmost_lifted (os : Os) (started : os.Started) (H : Type) (enc : TypeId × Value → H) :
    ReturnsInHanded {} Try.checked os 5 .any (Rows.bucketMostSpec.pre6 enc Try.prog Try.f5 Rows.bucketMostRow.domain false) (Rows.bucketMostSpec.post enc Try.prog Try.f5 false true false false) := by
  refine returnsInHanded_of_change (C := Try.checked) own started (by kernel_rfl) Try.func5
    (ChangeSpec.witness6 (enc := enc) (C := Try.checked) false ⟨#[], #[.int .u8 0, .int .u8 0, .slice none 0 0], []⟩ 8 (by kernel_rfl) (by kernel_rfl) (by kernel_rfl) (by kernel_rfl)) ?_
  intro W base args ds gs before hval0 hW hcnd _
  have hval : ∀ (j : Nat) t v, Try.f5.params[j]? = some t → args[j]? = some v → Value.okWide Try.prog W .any base t v := hval0
  have hW' := hW
  obtain ⟨p, q, hA0, hV, rfl, hfz, hnd⟩ := hW
  have hA : DataW.TrodAll enc Try.prog W 0 (fun _ => true) true Try.f5.params.toList args.toList ds p := hA0
  rw [Try.params5] at hA hval
  obtain ⟨v0, vs0, d0, ds0, p0, q0, hargs, rfl, rfl, h0, r0⟩ := trodAll_cons hA
  obtain ⟨v1, vs1, d1, ds1, p1, q1, rfl, rfl, rfl, h1, r1⟩ := trodAll_cons r0
  obtain ⟨v2, vs2, d2, ds2, p2, q2, rfl, rfl, rfl, h2, r2⟩ := trodAll_cons r1
  obtain ⟨rfl, rfl, rfl⟩ := trodAll_nil r2
  obtain rfl : args = #[v0, v1, v2] := by cases args; simp_all
  obtain ⟨rfl, rfl⟩ := trodVars_none hV
  obtain ⟨n0, rfl, rfl, rfl, wa⟩ := open_int Try.underlying5 (hval 0 5 v0 rfl rfl) h0
  obtain ⟨n1, rfl, rfl, rfl, wb⟩ := open_int Try.underlying5 (hval 1 5 v1 rfl rfl) h1
  obtain ⟨l, hl, hln, hls⟩ := open_nums_k Try.underlying59 Try.underlying5 (by kernel_rfl) (hval 2 59 v2 rfl rfl) h2
  refine (bmost_walk n0 n1 v2 l W (bounds_u8 wa) (bounds_u8 wb) hl (fun n hn => bounds_u8 (hls n hn))).mono fun e W' ⟨he, hb⟩ => ?_
  subst he
  exact ⟨_, rfl, law_post rfl rfl Try.underlying4 (by kernel_rfl) rfl hW' hb⟩
theorem bmost_holds : Rows.BucketMostSaid :=
  OpenClaim.holds_of_wide 5 Try.f5 rfl rfl rfl rfl rfl rfl rfl ⟨rfl, rfl, rfl, rfl, rfl⟩ rfl rfl rfl rfl rfl (by kernel_rfl) Try.func5 (by kernel_rfl)
    (of_decide_eq_true (by kernel_rfl)) (by unfold Func.isWrapper; first | (rw [if_pos (by decide +kernel)]; kernel_rfl) | (rw [if_neg (by decide +kernel)]; exact ⟨rfl, rfl⟩))
    (fun os started H enc _ => bmost_lifted os started H enc)
end Go.Proofs.Ytfahcdggoabdhaa
