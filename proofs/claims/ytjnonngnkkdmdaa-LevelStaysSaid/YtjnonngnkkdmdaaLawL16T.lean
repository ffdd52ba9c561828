/- LevelStays: a level is from 0 to 3 all along, falls one a step at most, and late, and is never below what the load asks for: the statement holds for every input. No condition. -/
import Derived.Test.YtjnonngnkkdmdaaL16W
import Derived.Test.YtjnonngnkkdmdaaLawOpen16
import Derived.Lib.MinMax
import Derived.Deep.DeepCutAuto
namespace Go.Proofs.Ytjnonngnkkdmdaa
open Go.RowKit Go.ChangeShapes Go.WideShapes Go.ChangeAt
set_option linter.unusedVariables false
set_option linter.unusedSimpArgs false

theorem cf7_other {W : World} {b d : Nat} {c : Lc} (h : Cf7 W b c) (hd : b ≠ d) (u0 u1 u2 : Value) : Cf7 (((W.setCell ⟨d, 0, none⟩ u0).setCell ⟨d, 1, none⟩ u1).setCell ⟨d, 2, none⟩ u2) b c := by
  obtain ⟨h0, h1, h2, h3, h4, h5, h6⟩ := h
  have hd2 : d ≠ b := fun e => hd e.symm
  simp [Cf7, go_sem, h0, h1, h2, h3, h4, h5, h6, hd, hd2]
theorem rs3_put {W : World} {b : Nat} {st : Ls} (h : Rs3 W b st) (s2 : Ls) : Rs3 (((W.setCell ⟨b, 0, none⟩ (.int .i64 s2.l)).setCell ⟨b, 1, none⟩ (.int .i64 s2.s)).setCell ⟨b, 2, none⟩ (.int .i64 s2.w)) b s2 := by
  obtain ⟨⟨h0, h1, h2⟩, f0, f1, f2⟩ := h
  simp [Rs3, St3, go_sem, h0, h1, h2, f0, f1, f2]
set_option maxRecDepth 100000 in
set_option maxHeartbeats 16000000 in
theorem lstays_walk (c : Lc) (v : Value) (l : List Int) (w : World) (hv : IsIk .u8 w v l) (h8 : ∀ n ∈ l, 0 ≤ n ∧ n ≤ 255) :
    Calls Try.prog 5 #[cfV c, v] w fun e w' => e = .returned (.bool true) ∧ Below w.heap.size w w' := by
  have aw := Lib.hid (fun W => awake_any W)
  have c0 := Lib.hid (fun W => lpcheck_any c W)
  have cS := Lib.hid (fun st n t W => lpstep_any c st n t W)
  have cF := Lib.hid (fun st W => lpfine_any st W)
  have cN := Lib.hid (fun W => lpnew_any W)
  have H8 := Lib.hid h8
  obtain ⟨p, cap, rfl, hp⟩ := hv
  have HP := Lib.hid hp
  clear hp h8
  simp only [cfV, lsV] at *
  by_cases hl : l.length ≤ 100
  case neg =>
    have hl' : (100 : Int) < l.length := by omega
    clear hl
    go_enter Try.func5, Try.ntmps5
    go_wp2_with fail
    refine (aw.out _).mono ?_; rintro e w1 ⟨rfl, hb1⟩
    go_wp2
    go_ret
    exact ⟨rfl, by (repeat (first | (with_reducible exact Below.refl _ _) | ((with_reducible refine below_alloc ?_ ?_ _); · (first | omega | (simp; done) | (simp; omega))) | ((with_reducible refine below_setCell ?_ ?_ _); · (first | omega | (simp; done) | (simp; omega))) | (with_reducible refine Below.drew ?_) | (with_reducible refine below_drewN ?_ _) | ((with_reducible refine below_call (by assumption) ?_ ?_); · (first | omega | (simp; done) | (simp; omega)))))⟩
  have hl' : ¬ (100 : Int) < l.length := by omega
  by_cases hc : chkLv c = 0
  case neg =>
    have e0 : (chkLv c != 0) = true := by simp [hc]
    generalize chkLv c = E at c0 hc e0
    go_enter Try.func5, Try.ntmps5
    go_wp2_with fail
    refine (c0.out _).mono ?_; rintro e w1 ⟨rfl, hb1⟩
    have B1 : Below w.heap.size w w1 := by (repeat (first | (with_reducible exact Below.refl _ _) | ((with_reducible refine below_alloc ?_ ?_ _); · (first | omega | (simp; done) | (simp; omega))) | ((with_reducible refine below_setCell ?_ ?_ _); · (first | omega | (simp; done) | (simp; omega))) | (with_reducible refine Below.drew ?_) | (with_reducible refine below_drewN ?_ _) | ((with_reducible refine below_call (by assumption) ?_ ?_); · (first | omega | (simp; done) | (simp; omega)))))
    go_wp2_with fail
    refine (aw.out _).mono ?_; rintro e w2 ⟨rfl, hb2⟩
    go_wp2
    go_ret
    exact ⟨rfl, B1.trans (hb2.mono B1.size)⟩
  rw [hc] at c0
  have hch := chkLv_ok hc
  have HC := Lib.hid hc
  clear hc
  have X0 : Hid (∀ t t', Cf7 ((w.alloc (.cells #[.int .i64 c.u0, .int .i64 c.u1, .int .i64 c.u2, .int .i64 c.d0, .int .i64 c.d1, .int .i64 c.d2, .int .i64 c.h] t)).alloc (.cells #[.int .i64 c.u0, .int .i64 c.u1, .int .i64 c.u2, .int .i64 c.d0, .int .i64 c.d1, .int .i64 c.d2, .int .i64 c.h] t')) (w.heap.size + 1) c) := Lib.hid (fun t t' => by simp [Cf7, go_sem])
  go_enter Try.func5, Try.ntmps5
  go_wp2_with fail
  refine (c0.out _).mono ?_; rintro e w1 ⟨rfl, hb1⟩
  have X1 := (X0.out _ _).call hb1
  have B1 : Below w.heap.size w w1 := by (repeat (first | (with_reducible exact Below.refl _ _) | ((with_reducible refine below_alloc ?_ ?_ _); · (first | omega | (simp; done) | (simp; omega))) | ((with_reducible refine below_setCell ?_ ?_ _); · (first | omega | (simp; done) | (simp; omega))) | (with_reducible refine Below.drew ?_) | (with_reducible refine below_drewN ?_ _) | ((with_reducible refine below_call (by assumption) ?_ ?_); · (first | omega | (simp; done) | (simp; omega)))))
  clear X0
  go_wp2_with fail
  refine (cN.out _).mono ?_; rintro e w2 ⟨rfl, hb2⟩
  have X2 := X1.call hb2
  have B2 : Below w.heap.size w w2 := B1.trans (hb2.mono B1.size)
  have hz := X2.lt
  clear X1
  go_upto_region 5 with fail
  refine gen_world (F := fun W => (Cf7 W (w.heap.size + 1) c ∧ Rs3 W w2.heap.size newLv) ∧ Below w.heap.size w W ∧ w.heap.size + 1 < w2.heap.size) ⟨⟨?_, ?_⟩, ?_, hz⟩ (fun wt hF => ?_)
  · exact X2.call (below_alloc (Nat.le_refl _) (Below.refl _ _) _)
  · simp [Rs3, St3, newLv, go_sem]
  · exact below_alloc B2.size B2 _
  generalize w2.heap.size = bs at hF ⊢
  obtain ⟨⟨X, Y⟩, hB, hbs⟩ := hF
  clear X2 B1 B2 hb1 hb2 hz
  go_wp2
  go_loopw [7, 8] (fun lo i wr => ∃ (k : Nat) (low : Int) (st : Ls), lo = .int .i64 low ∧ i = .int .i64 k ∧ k ≤ l.length ∧ Hid (LowIs st k low) ∧ Cf7 wr (w.heap.size + 1) c ∧ Rs3 wr bs st ∧ Below w.heap.size w wr) (fun _ i _ => l.length - (intOf i).toNat)
  case atStart => exact ⟨0, 0, newLv, rfl, rfl, Nat.zero_le _, Lib.hid low_new, X, Y, hB⟩
  case round =>
    clear X Y hB
    obtain ⟨k, low, st, rfl, rfl, hk, HL, X, Y, hB⟩ := hrel
    by_cases hlt : k < l.length
    · have hlt' : (k : Int) < l.length := by omega
      obtain ⟨b, off, rfl, d⟩ := HP.out k hlt
      have d1 : wr.cell? ⟨b, off + k, none⟩ = some (.int .u8 l[k]) := (hB.cell (p := ⟨b, off + k, none⟩) (World.block_lt_of_cell? _ _ d)).trans d
      have hn := H8.out _ (List.getElem_mem hlt)
      generalize l[k] = n at d1 hn
      clear d
      go_upto_region 10 with fail
      have hkt : (0 : Int) ≤ k := by omega
      have hkt2 : (k : Int) < 1099511627776 := by omega
      have hE := low_held HL.out hkt hkt2 c HC.out n hn.1
      have hx := low_step (n := min 100 n) HC.out HL.out hkt hkt2 (x := stpL c st n (k + 1)) hE.symm
      have cSx := Lib.hid (fun W => cS.out st n ((k : Int) + 1) W)
      have hN : 0 ≤ min 100 n ∧ min 100 n ≤ 100 := by omega
      have hlo : 0 ≤ low ∧ low ≤ k := by
        obtain ⟨-, -, q2, q⟩ := HL.out
        omega
      have hst := HL.out.1
      clear hE HL
      generalize stpL c st n (k + 1) = x at hx cSx
      generalize min 100 n = N at hx hN ⊢
      have HX := Lib.hid hx
      have hxf := hx.1.1
      have hx2 := hx.2.1
      clear hx
      obtain ⟨ll, ss, sw⟩ := st
      obtain ⟨m, xs, xw⟩ := x
      have hli := (finLv_iff.1 hst).1
      have hmi := (finLv_iff.1 hxf).1
      simp only at hli hmi hx2 cSx
      have cFx := Lib.hid (fun W => cF.out ⟨m, xs, xw⟩ W)
      rw [hxf] at cFx
      simp only at cFx
      have X' := Lib.hid X
      have Y' := Lib.hid Y
      have hT0 : Below wr.heap.size wr wr.drew := Below.drew (Below.refl _ _)
      have hbw : bs < wr.heap.size := Y.1.lt
      have hout : Hid (∀ W, Below wr.heap.size wr W → ((W.cell? ⟨w.heap.size + 1, 0, none⟩ = some (.int .i64 c.u0) ∧ W.cell? ⟨w.heap.size + 1, 1, none⟩ = some (.int .i64 c.u1) ∧ W.cell? ⟨w.heap.size + 1, 2, none⟩ = some (.int .i64 c.u2) ∧ W.cell? ⟨w.heap.size + 1, 3, none⟩ = some (.int .i64 c.d0) ∧ W.cell? ⟨w.heap.size + 1, 4, none⟩ = some (.int .i64 c.d1) ∧ W.cell? ⟨w.heap.size + 1, 5, none⟩ = some (.int .i64 c.d2) ∧ W.cell? ⟨w.heap.size + 1, 6, none⟩ = some (.int .i64 c.h)) ∧ (W.cell? ⟨bs, 0, none⟩ = some (.int .i64 ll) ∧ W.cell? ⟨bs, 1, none⟩ = some (.int .i64 ss) ∧ W.cell? ⟨bs, 2, none⟩ = some (.int .i64 sw))) ∧ W.cell? ⟨b, off + k, none⟩ = some (.int .u8 n)) := Lib.hid (fun W hb => ⟨⟨X'.out.call hb, Y'.out.1.call hb⟩, (hb.cell (p := ⟨b, off + k, none⟩) (World.block_lt_of_cell? _ _ d1)).trans d1⟩)
      have hwn : IntKind.i64.wrap n = n := IntWalk.i64_in _ (by omega)
      have hwk : IntKind.i64.wrap ((k : Int) + 1) = (k : Int) + 1 := IntWalk.i64_in _ (by omega)
      clear X Y d1 hst hxf
      go_cut [10] (fun px wx => ∃ bx : Nat, px = .pointer (some ⟨bx, 0, none⟩) ∧ wr.heap.size ≤ bx ∧ St3 wx bx ⟨m, xs, xw⟩ ∧ Below wr.heap.size wr wx)
      case first =>
        refine wp_region_held_drew (S := fun W => ((W.cell? ⟨w.heap.size + 1, 0, none⟩ = some (.int .i64 c.u0) ∧ W.cell? ⟨w.heap.size + 1, 1, none⟩ = some (.int .i64 c.u1) ∧ W.cell? ⟨w.heap.size + 1, 2, none⟩ = some (.int .i64 c.u2) ∧ W.cell? ⟨w.heap.size + 1, 3, none⟩ = some (.int .i64 c.d0) ∧ W.cell? ⟨w.heap.size + 1, 4, none⟩ = some (.int .i64 c.d1) ∧ W.cell? ⟨w.heap.size + 1, 5, none⟩ = some (.int .i64 c.d2) ∧ W.cell? ⟨w.heap.size + 1, 6, none⟩ = some (.int .i64 c.h)) ∧ (W.cell? ⟨bs, 0, none⟩ = some (.int .i64 ll) ∧ W.cell? ⟨bs, 1, none⟩ = some (.int .i64 ss) ∧ W.cell? ⟨bs, 2, none⟩ = some (.int .i64 sw))) ∧ W.cell? ⟨b, off + k, none⟩ = some (.int .u8 n)) (by kernel_rfl) (hout.out _ (by assumption)) (fun hHeld => ?_)
        (refine wpAnyH_take (i := 0) (v := ?_) rfl (by kernel_rfl) (by kernel_rfl) (by kernel_rfl) (fun _ _ _ h => h) (Or.inl ⟨by rfl, ?_⟩) (by assumption) ?_; rotate_left 1; (focus (intro wz hz; (try dsimp only at hz); (try simp only [List.getElem_toArray, List.getElem_cons_succ, List.getElem_cons_zero]); go_simp; (try (rw [if_neg (by (try simp only [ByteArray.size_append]); omega)])); try (with_reducible rfl); done)))
        try simp only [Act.put, List.getElem_toArray, List.getElem_cons_succ, List.getElem_cons_zero, List.setIfInBounds_toArray, List.set_cons_zero, List.set_cons_succ]
        (refine wpAnyH_take (i := 1) (v := ?_) rfl (by kernel_rfl) (by kernel_rfl) (by kernel_rfl) (fun _ _ _ h => h) (Or.inl ⟨by rfl, ?_⟩) (by assumption) ?_; rotate_left 1; (focus (intro wz hz; (try dsimp only at hz); (try simp only [List.getElem_toArray, List.getElem_cons_succ, List.getElem_cons_zero]); go_simp; (try (rw [if_neg (by (try simp only [ByteArray.size_append]); omega)])); try (with_reducible rfl); done)))
        try simp only [Act.put, List.getElem_toArray, List.getElem_cons_succ, List.getElem_cons_zero, List.setIfInBounds_toArray, List.set_cons_zero, List.set_cons_succ]
        (refine wpAnyH_take (i := 2) (v := ?_) rfl (by kernel_rfl) (by kernel_rfl) (by kernel_rfl) (fun _ _ _ h => h) (Or.inl ⟨by rfl, ?_⟩) (by assumption) ?_; rotate_left 1; (focus (intro wz hz; (try dsimp only at hz); (try simp only [List.getElem_toArray, List.getElem_cons_succ, List.getElem_cons_zero]); go_simp; (try (rw [if_neg (by (try simp only [ByteArray.size_append]); omega)])); try (with_reducible rfl); done)))
        try simp only [Act.put, List.getElem_toArray, List.getElem_cons_succ, List.getElem_cons_zero, List.setIfInBounds_toArray, List.set_cons_zero, List.set_cons_succ]
        (refine wpAnyH_take (i := 3) (v := ?_) rfl (by kernel_rfl) (by kernel_rfl) (by kernel_rfl) (fun _ _ _ h => h) (Or.inl ⟨by rfl, ?_⟩) (by assumption) ?_; rotate_left 1; (focus (intro wz hz; (try dsimp only at hz); (try simp only [List.getElem_toArray, List.getElem_cons_succ, List.getElem_cons_zero]); go_simp; (try (rw [if_neg (by (try simp only [ByteArray.size_append]); omega)])); try (with_reducible rfl); done)))
        try simp only [Act.put, List.getElem_toArray, List.getElem_cons_succ, List.getElem_cons_zero, List.setIfInBounds_toArray, List.set_cons_zero, List.set_cons_succ]
        (refine wpAnyH_take (i := 7) (v := ?_) rfl (by kernel_rfl) (by kernel_rfl) (by kernel_rfl) (fun _ _ _ h => h) (Or.inl ⟨by rfl, ?_⟩) (by assumption) ?_; rotate_left 1; (focus (intro wz hz; (try dsimp only at hz); (try simp only [List.getElem_toArray, List.getElem_cons_succ, List.getElem_cons_zero]); go_simp; (try (rw [if_neg (by (try simp only [ByteArray.size_append]); omega)])); try (with_reducible rfl); done)))
        try simp only [Act.put, List.getElem_toArray, List.getElem_cons_succ, List.getElem_cons_zero, List.setIfInBounds_toArray, List.set_cons_zero, List.set_cons_succ]
        (refine wpAnyH_take (i := 4) (v := ?_) rfl (by kernel_rfl) (by kernel_rfl) (by kernel_rfl) (fun _ _ _ h => h) (Or.inl ⟨by rfl, ?_⟩) (by assumption) ?_; rotate_left 1; (focus (intro wz hz; (try dsimp only at hz); (try simp only [List.getElem_toArray, List.getElem_cons_succ, List.getElem_cons_zero]); go_simp; (try (rw [if_neg (by (try simp only [ByteArray.size_append]); omega)])); try (with_reducible rfl); done)))
        try simp only [Act.put, List.getElem_toArray, List.getElem_cons_succ, List.getElem_cons_zero, List.setIfInBounds_toArray, List.set_cons_zero, List.set_cons_succ]
        (refine wpAnyH_take (i := 8) (v := ?_) rfl (by kernel_rfl) (by kernel_rfl) (by kernel_rfl) (fun _ _ _ h => h) (Or.inl ⟨by rfl, ?_⟩) (by assumption) ?_; rotate_left 1; (focus (intro wz hz; (try dsimp only at hz); (try simp only [List.getElem_toArray, List.getElem_cons_succ, List.getElem_cons_zero]); go_simp; (try (rw [if_neg (by (try simp only [ByteArray.size_append]); omega)])); try (with_reducible rfl); done)))
        try simp only [Act.put, List.getElem_toArray, List.getElem_cons_succ, List.getElem_cons_zero, List.setIfInBounds_toArray, List.set_cons_zero, List.set_cons_succ]
        (refine wpAnyH_take (i := 5) (v := ?_) rfl (by kernel_rfl) (by kernel_rfl) (by kernel_rfl) (fun _ _ _ h => h) (Or.inl ⟨by rfl, ?_⟩) (by assumption) ?_; rotate_left 1; (focus (intro wz hz; (try dsimp only at hz); (try simp only [List.getElem_toArray, List.getElem_cons_succ, List.getElem_cons_zero]); go_simp; (try (rw [if_neg (by (try simp only [ByteArray.size_append]); omega)])); try (with_reducible rfl); done)))
        try simp only [Act.put, List.getElem_toArray, List.getElem_cons_succ, List.getElem_cons_zero, List.setIfInBounds_toArray, List.set_cons_zero, List.set_cons_succ]
        (refine wpAnyH_take (i := 6) (v := ?_) rfl (by kernel_rfl) (by kernel_rfl) (by kernel_rfl) (fun _ _ _ h => h) (Or.inl ⟨by rfl, ?_⟩) (by assumption) ?_; rotate_left 1; (focus (intro wz hz; (try dsimp only at hz); (try simp only [List.getElem_toArray, List.getElem_cons_succ, List.getElem_cons_zero]); go_simp; (try (rw [if_neg (by (try simp only [ByteArray.size_append]); omega)])); try (with_reducible rfl); done)))
        try simp only [Act.put, List.getElem_toArray, List.getElem_cons_succ, List.getElem_cons_zero, List.setIfInBounds_toArray, List.set_cons_zero, List.set_cons_succ]
        refine wpAnyH_ready (rs := [9, 10]) (by kernel_rfl) (by simp) ?_
        refine AllReadyH.cons rfl (fun K hK => ?_) (AllReadyH.cons rfl (fun K hK => ?_) AllReadyH.nil)
        · ((try simp only [List.getElem_toArray, List.getElem_cons_succ, List.getElem_cons_zero]); go_simp; go_at_call 7; refine (cSx.out _).mono ?_; rintro e wn9 ⟨rfl, hbn9⟩; have hT9 : Below wr.heap.size wr wn9 := (by (repeat (first | (with_reducible exact Below.refl _ _) | ((with_reducible refine below_alloc ?_ ?_ _); · (first | omega | (simp; done) | (simp; omega))) | ((with_reducible refine below_setCell ?_ ?_ _); · (first | omega | (simp; done) | (simp; omega))) | (with_reducible refine Below.drew ?_) | (with_reducible refine below_drewN ?_ _) | ((with_reducible refine below_call (by assumption) ?_ ?_); · (first | omega | (simp; done) | (simp; omega)))))); have z9 := hT9.size; (first | (have RS := rs3_new hbn9; obtain ⟨⟨r0, r1, r2⟩, f0, f1, f2⟩ := And.intro RS.1 RS.2) | (have RS := rs3_newd hbn9; obtain ⟨⟨r0, r1, r2⟩, f0, f1, f2⟩ := And.intro RS.1 RS.2) | skip); (try (go_wp2_with fail)); refine hK.out _ _ (hout.out _ (by assumption)) (fun hHeld => ?_); clear hK K)
          try simp only [Act.put, List.getElem_toArray, List.getElem_cons_succ, List.getElem_cons_zero, List.setIfInBounds_toArray, List.set_cons_zero, List.set_cons_succ]
          (refine wpAnyH_ready (rs := [10]) (by kernel_rfl) (by simp) ?_; refine AllReadyH.cons rfl (fun K hK => ?_) AllReadyH.nil; (try simp only [List.getElem_toArray, List.getElem_cons_succ, List.getElem_cons_zero]); skip; go_simp; refine hK.out _ _ (hout.out _ (by (repeat (first | (with_reducible exact Below.refl _ _) | ((with_reducible refine below_alloc ?_ ?_ _); · (first | omega | (simp; done) | (simp; omega))) | ((with_reducible refine below_setCell ?_ ?_ _); · (first | omega | (simp; done) | (simp; omega))) | (with_reducible refine Below.drew ?_) | (with_reducible refine below_drewN ?_ _) | ((with_reducible refine below_call (by assumption) ?_ ?_); · (first | omega | (simp; done) | (simp; omega))))))) (fun hHeld => ?_); clear hK K)
          try simp only [Act.put, List.getElem_toArray, List.getElem_cons_succ, List.getElem_cons_zero, List.setIfInBounds_toArray, List.set_cons_zero, List.set_cons_succ]
          (refine wpAnyH_ready (rs := [11]) (by kernel_rfl) (by simp) ?_; refine AllReadyH.cons rfl (fun K hK => ?_) AllReadyH.nil; (try simp only [List.getElem_toArray, List.getElem_cons_succ, List.getElem_cons_zero]); skip; go_simp; refine hK.out _ _ (hout.out _ (by (repeat (first | (with_reducible exact Below.refl _ _) | ((with_reducible refine below_alloc ?_ ?_ _); · (first | omega | (simp; done) | (simp; omega))) | ((with_reducible refine below_setCell ?_ ?_ _); · (first | omega | (simp; done) | (simp; omega))) | (with_reducible refine Below.drew ?_) | (with_reducible refine below_drewN ?_ _) | ((with_reducible refine below_call (by assumption) ?_ ?_); · (first | omega | (simp; done) | (simp; omega))))))) (fun hHeld => ?_); clear hK K)
          try simp only [Act.put, List.getElem_toArray, List.getElem_cons_succ, List.getElem_cons_zero, List.setIfInBounds_toArray, List.set_cons_zero, List.set_cons_succ]
          refine wpAnyH_done (by kernel_rfl) ?_ _
          go_wp2_with fail; go_meet; refine ⟨_, rfl, by first | exact Nat.le_refl _ | exact z9, by first | (simp [St3, go_sem]; done) | (simp [St3, go_sem, r0, r1, r2, f0, f1, f2]; done), show Below wr.heap.size wr _ by (repeat (first | (with_reducible exact Below.refl _ _) | ((with_reducible refine below_alloc ?_ ?_ _); · (first | omega | (simp; done) | (simp; omega))) | ((with_reducible refine below_setCell ?_ ?_ _); · (first | omega | (simp; done) | (simp; omega))) | (with_reducible refine Below.drew ?_) | (with_reducible refine below_drewN ?_ _) | ((with_reducible refine below_call (by assumption) ?_ ?_); · (first | omega | (simp; done) | (simp; omega)))))⟩
        · ((try simp only [List.getElem_toArray, List.getElem_cons_succ, List.getElem_cons_zero]); skip; go_simp; refine hK.out _ _ (hout.out _ (by (repeat (first | (with_reducible exact Below.refl _ _) | ((with_reducible refine below_alloc ?_ ?_ _); · (first | omega | (simp; done) | (simp; omega))) | ((with_reducible refine below_setCell ?_ ?_ _); · (first | omega | (simp; done) | (simp; omega))) | (with_reducible refine Below.drew ?_) | (with_reducible refine below_drewN ?_ _) | ((with_reducible refine below_call (by assumption) ?_ ?_); · (first | omega | (simp; done) | (simp; omega))))))) (fun hHeld => ?_); clear hK K)
          try simp only [Act.put, List.getElem_toArray, List.getElem_cons_succ, List.getElem_cons_zero, List.setIfInBounds_toArray, List.set_cons_zero, List.set_cons_succ]
          (refine wpAnyH_ready (rs := [9]) (by kernel_rfl) (by simp) ?_; refine AllReadyH.cons rfl (fun K hK => ?_) AllReadyH.nil; (try simp only [List.getElem_toArray, List.getElem_cons_succ, List.getElem_cons_zero]); go_simp; go_at_call 7; refine (cSx.out _).mono ?_; rintro e wn9 ⟨rfl, hbn9⟩; have hT9 : Below wr.heap.size wr wn9 := (by (repeat (first | (with_reducible exact Below.refl _ _) | ((with_reducible refine below_alloc ?_ ?_ _); · (first | omega | (simp; done) | (simp; omega))) | ((with_reducible refine below_setCell ?_ ?_ _); · (first | omega | (simp; done) | (simp; omega))) | (with_reducible refine Below.drew ?_) | (with_reducible refine below_drewN ?_ _) | ((with_reducible refine below_call (by assumption) ?_ ?_); · (first | omega | (simp; done) | (simp; omega)))))); have z9 := hT9.size; (first | (have RS := rs3_new hbn9; obtain ⟨⟨r0, r1, r2⟩, f0, f1, f2⟩ := And.intro RS.1 RS.2) | (have RS := rs3_newd hbn9; obtain ⟨⟨r0, r1, r2⟩, f0, f1, f2⟩ := And.intro RS.1 RS.2) | skip); (try (go_wp2_with fail)); refine hK.out _ _ (hout.out _ (by assumption)) (fun hHeld => ?_); clear hK K)
          try simp only [Act.put, List.getElem_toArray, List.getElem_cons_succ, List.getElem_cons_zero, List.setIfInBounds_toArray, List.set_cons_zero, List.set_cons_succ]
          (refine wpAnyH_ready (rs := [11]) (by kernel_rfl) (by simp) ?_; refine AllReadyH.cons rfl (fun K hK => ?_) AllReadyH.nil; (try simp only [List.getElem_toArray, List.getElem_cons_succ, List.getElem_cons_zero]); skip; go_simp; refine hK.out _ _ (hout.out _ (by (repeat (first | (with_reducible exact Below.refl _ _) | ((with_reducible refine below_alloc ?_ ?_ _); · (first | omega | (simp; done) | (simp; omega))) | ((with_reducible refine below_setCell ?_ ?_ _); · (first | omega | (simp; done) | (simp; omega))) | (with_reducible refine Below.drew ?_) | (with_reducible refine below_drewN ?_ _) | ((with_reducible refine below_call (by assumption) ?_ ?_); · (first | omega | (simp; done) | (simp; omega))))))) (fun hHeld => ?_); clear hK K)
          try simp only [Act.put, List.getElem_toArray, List.getElem_cons_succ, List.getElem_cons_zero, List.setIfInBounds_toArray, List.set_cons_zero, List.set_cons_succ]
          refine wpAnyH_done (by kernel_rfl) ?_ _
          go_wp2_with fail; go_meet; refine ⟨_, rfl, by first | exact Nat.le_refl _ | exact z9, by first | (simp [St3, go_sem]; done) | (simp [St3, go_sem, r0, r1, r2, f0, f1, f2]; done), show Below wr.heap.size wr _ by (repeat (first | (with_reducible exact Below.refl _ _) | ((with_reducible refine below_alloc ?_ ?_ _); · (first | omega | (simp; done) | (simp; omega))) | ((with_reducible refine below_setCell ?_ ?_ _); · (first | omega | (simp; done) | (simp; omega))) | (with_reducible refine Below.drew ?_) | (with_reducible refine below_drewN ?_ _) | ((with_reducible refine below_call (by assumption) ?_ ?_); · (first | omega | (simp; done) | (simp; omega)))))⟩
      case rest =>
        obtain ⟨bx, rfl, hbx, RX, hbc⟩ := hcut
        have HXc := Lib.hid (X'.out.call hbc)
        have HYc := Lib.hid (Y'.out.call hbc)
        have HRX := Lib.hid RX
        have HBc := Lib.hid (hB.trans (hbc.mono hB.size))
        have hzc := hbc.size
        have hbxc : bx < wc.heap.size := RX.lt
        clear hout X' Y' RX hbc hB hT0
        have hw1 : IntKind.i64.wrap (low + 1) = low + 1 := IntWalk.i64_in _ (by omega)
        have hch' := hch
        have w0 : IntKind.i64.wrap 0 = 0 := by decide
        have w1 : IntKind.i64.wrap 1 = 1 := by decide
        have w2 : IntKind.i64.wrap 2 = 2 := by decide
        have w3 : IntKind.i64.wrap 3 = 3 := by decide
        have wm : IntKind.i64.wrap (-1) = -1 := by decide
        rcases (show ll = 0 ∨ ll = 1 ∨ ll = 2 ∨ ll = 3 by omega) with rfl | rfl | rfl | rfl
        · rcases (show m = 0 ∨ m = 1 ∨ m = 2 ∨ m = 3 by omega) with rfl | rfl | rfl | rfl
          · as_aux_lemma =>
              have F := HX.out
              clear HX hli hmi hx2
              simp only [lowN, upL, dnL] at F
              obtain ⟨FL, -, F3, F4, F5, F6⟩ := F
              have hu : N < c.u0 := by have := F3 (by decide); simpa using this
              have hu1 : decide (c.u0 ≤ N) = false := decide_eq_false (by omega)
              have hh : decide (c.h < 0) = false := decide_eq_false (by omega)
              have HFL : Hid (LowIs ⟨0, _, xw⟩ ((k : Int) + 1) (0)) := Lib.hid (by first | exact FL | (simpa using FL; done) | (simpa using FL))
              clear F3 F4 F5 F6 FL
              obtain ⟨x0, x1, x2, x3, x4, x5, x6⟩ := HXc.out
              obtain ⟨⟨y0, y1, y2⟩, g0, g1, g2⟩ := HYc.out
              obtain ⟨r0, r1, r2⟩ := HRX.out
              simp only at y0 y1 y2 r0 r1 r2
              go_wp2_with fail
              refine (cFx.out _).mono ?_; rintro e w5 ⟨rfl, hb5⟩
              clear x0 x1 x2 x3 x4 x5 x6 y0 y1 y2 g0 g1 g2 r0 r1 r2
              obtain ⟨x0, x1, x2, x3, x4, x5, x6⟩ := HXc.out.call hb5
              obtain ⟨⟨y0, y1, y2⟩, g0, g1, g2⟩ := HYc.out.call hb5
              obtain ⟨r0, r1, r2⟩ := HRX.out.call hb5
              simp only at y0 y1 y2 r0 r1 r2
              have HX5 := Lib.hid (HXc.out.call hb5)
              have HY5 := Lib.hid (HYc.out.call hb5)
              have HB5 := Lib.hid (HBc.out.trans (hb5.mono HBc.out.size))
              have hz5 := hb5.size
              have hne : w.heap.size + 1 ≠ bs := by omega
              have hnx : bx ≠ bs := by omega
              go_upto_region 16 with fail; (try simp only [List.append_eq, List.cons_append, List.nil_append]); go_wp2
              go_roundw
              case rel =>
                refine ⟨k + 1, 0, ⟨0, _, _⟩, by first | rfl | go_num, by go_num, hlt, HFL, ?_, ?_, ?_⟩
                · exact cf7_other HX5.out hne _ _ _
                · exact rs3_put HY5.out ⟨0, _, _⟩
                · have := HB5.out
                  (repeat (first | (with_reducible exact Below.refl _ _) | ((with_reducible refine below_alloc ?_ ?_ _); · (first | omega | (simp; done) | (simp; omega))) | ((with_reducible refine below_setCell ?_ ?_ _); · (first | omega | (simp; done) | (simp; omega))) | (with_reducible refine Below.drew ?_) | (with_reducible refine below_drewN ?_ _) | ((with_reducible refine below_call (by assumption) ?_ ?_); · (first | omega | (simp; done) | (simp; omega)))))
                  all_goals exact HB5.out
              case measure => simp [intOf]; omega
          · as_aux_lemma =>
              have F := HX.out
              clear HX hli hmi hx2
              simp only [lowN, upL, dnL] at F
              obtain ⟨FL, -, F3, F4, F5, F6⟩ := F
              have hu : N < c.u1 := by have := F3 (by decide); simpa using this
              have hu1 : decide (c.u1 ≤ N) = false := decide_eq_false (by omega)
              obtain ⟨hg, hxs⟩ := F5 (by decide)
              have hg : c.u0 ≤ N := by simpa using hg
              have hg1 : decide (N < c.u0) = false := decide_eq_false (by omega)
              subst hxs
              have hh : decide (c.h < 0) = false := decide_eq_false (by omega)
              have HFL : Hid (LowIs ⟨1, _, xw⟩ ((k : Int) + 1) (0)) := Lib.hid (by first | exact FL | (simpa using FL; done) | (simpa using FL))
              clear F3 F4 F5 F6 FL
              obtain ⟨x0, x1, x2, x3, x4, x5, x6⟩ := HXc.out
              obtain ⟨⟨y0, y1, y2⟩, g0, g1, g2⟩ := HYc.out
              obtain ⟨r0, r1, r2⟩ := HRX.out
              simp only at y0 y1 y2 r0 r1 r2
              go_wp2_with fail
              refine (cFx.out _).mono ?_; rintro e w5 ⟨rfl, hb5⟩
              clear x0 x1 x2 x3 x4 x5 x6 y0 y1 y2 g0 g1 g2 r0 r1 r2
              obtain ⟨x0, x1, x2, x3, x4, x5, x6⟩ := HXc.out.call hb5
              obtain ⟨⟨y0, y1, y2⟩, g0, g1, g2⟩ := HYc.out.call hb5
              obtain ⟨r0, r1, r2⟩ := HRX.out.call hb5
              simp only at y0 y1 y2 r0 r1 r2
              have HX5 := Lib.hid (HXc.out.call hb5)
              have HY5 := Lib.hid (HYc.out.call hb5)
              have HB5 := Lib.hid (HBc.out.trans (hb5.mono HBc.out.size))
              have hz5 := hb5.size
              have hne : w.heap.size + 1 ≠ bs := by omega
              have hnx : bx ≠ bs := by omega
              go_upto_region 16 with fail; (try simp only [List.append_eq, List.cons_append, List.nil_append]); go_wp2
              go_roundw
              case rel =>
                refine ⟨k + 1, 0, ⟨1, _, _⟩, by first | rfl | go_num, by go_num, hlt, HFL, ?_, ?_, ?_⟩
                · exact cf7_other HX5.out hne _ _ _
                · exact rs3_put HY5.out ⟨1, _, _⟩
                · have := HB5.out
                  (repeat (first | (with_reducible exact Below.refl _ _) | ((with_reducible refine below_alloc ?_ ?_ _); · (first | omega | (simp; done) | (simp; omega))) | ((with_reducible refine below_setCell ?_ ?_ _); · (first | omega | (simp; done) | (simp; omega))) | (with_reducible refine Below.drew ?_) | (with_reducible refine below_drewN ?_ _) | ((with_reducible refine below_call (by assumption) ?_ ?_); · (first | omega | (simp; done) | (simp; omega)))))
                  all_goals exact HB5.out
              case measure => simp [intOf]; omega
          · as_aux_lemma =>
              have F := HX.out
              clear HX hli hmi hx2
              simp only [lowN, upL, dnL] at F
              obtain ⟨FL, -, F3, F4, F5, F6⟩ := F
              have hu : N < c.u2 := by have := F3 (by decide); simpa using this
              have hu1 : decide (c.u2 ≤ N) = false := decide_eq_false (by omega)
              obtain ⟨hg, hxs⟩ := F5 (by decide)
              have hg : c.u0 ≤ N := by simpa using hg
              have hg1 : decide (N < c.u0) = false := decide_eq_false (by omega)
              subst hxs
              have hh : decide (c.h < 0) = false := decide_eq_false (by omega)
              have HFL : Hid (LowIs ⟨2, _, xw⟩ ((k : Int) + 1) (0)) := Lib.hid (by first | exact FL | (simpa using FL; done) | (simpa using FL))
              clear F3 F4 F5 F6 FL
              obtain ⟨x0, x1, x2, x3, x4, x5, x6⟩ := HXc.out
              obtain ⟨⟨y0, y1, y2⟩, g0, g1, g2⟩ := HYc.out
              obtain ⟨r0, r1, r2⟩ := HRX.out
              simp only at y0 y1 y2 r0 r1 r2
              go_wp2_with fail
              refine (cFx.out _).mono ?_; rintro e w5 ⟨rfl, hb5⟩
              clear x0 x1 x2 x3 x4 x5 x6 y0 y1 y2 g0 g1 g2 r0 r1 r2
              obtain ⟨x0, x1, x2, x3, x4, x5, x6⟩ := HXc.out.call hb5
              obtain ⟨⟨y0, y1, y2⟩, g0, g1, g2⟩ := HYc.out.call hb5
              obtain ⟨r0, r1, r2⟩ := HRX.out.call hb5
              simp only at y0 y1 y2 r0 r1 r2
              have HX5 := Lib.hid (HXc.out.call hb5)
              have HY5 := Lib.hid (HYc.out.call hb5)
              have HB5 := Lib.hid (HBc.out.trans (hb5.mono HBc.out.size))
              have hz5 := hb5.size
              have hne : w.heap.size + 1 ≠ bs := by omega
              have hnx : bx ≠ bs := by omega
              go_upto_region 16 with fail; (try simp only [List.append_eq, List.cons_append, List.nil_append]); go_wp2
              go_roundw
              case rel =>
                refine ⟨k + 1, 0, ⟨2, _, _⟩, by first | rfl | go_num, by go_num, hlt, HFL, ?_, ?_, ?_⟩
                · exact cf7_other HX5.out hne _ _ _
                · exact rs3_put HY5.out ⟨2, _, _⟩
                · have := HB5.out
                  (repeat (first | (with_reducible exact Below.refl _ _) | ((with_reducible refine below_alloc ?_ ?_ _); · (first | omega | (simp; done) | (simp; omega))) | ((with_reducible refine below_setCell ?_ ?_ _); · (first | omega | (simp; done) | (simp; omega))) | (with_reducible refine Below.drew ?_) | (with_reducible refine below_drewN ?_ _) | ((with_reducible refine below_call (by assumption) ?_ ?_); · (first | omega | (simp; done) | (simp; omega)))))
                  all_goals exact HB5.out
              case measure => simp [intOf]; omega
          · as_aux_lemma =>
              have F := HX.out
              clear HX hli hmi hx2
              simp only [lowN, upL, dnL] at F
              obtain ⟨FL, -, F3, F4, F5, F6⟩ := F
              obtain ⟨hg, hxs⟩ := F5 (by decide)
              have hg : c.u0 ≤ N := by simpa using hg
              have hg1 : decide (N < c.u0) = false := decide_eq_false (by omega)
              subst hxs
              have hh : decide (c.h < 0) = false := decide_eq_false (by omega)
              have HFL : Hid (LowIs ⟨3, _, xw⟩ ((k : Int) + 1) (0)) := Lib.hid (by first | exact FL | (simpa using FL; done) | (simpa using FL))
              clear F3 F4 F5 F6 FL
              obtain ⟨x0, x1, x2, x3, x4, x5, x6⟩ := HXc.out
              obtain ⟨⟨y0, y1, y2⟩, g0, g1, g2⟩ := HYc.out
              obtain ⟨r0, r1, r2⟩ := HRX.out
              simp only at y0 y1 y2 r0 r1 r2
              go_wp2_with fail
              refine (cFx.out _).mono ?_; rintro e w5 ⟨rfl, hb5⟩
              clear x0 x1 x2 x3 x4 x5 x6 y0 y1 y2 g0 g1 g2 r0 r1 r2
              obtain ⟨x0, x1, x2, x3, x4, x5, x6⟩ := HXc.out.call hb5
              obtain ⟨⟨y0, y1, y2⟩, g0, g1, g2⟩ := HYc.out.call hb5
              obtain ⟨r0, r1, r2⟩ := HRX.out.call hb5
              simp only at y0 y1 y2 r0 r1 r2
              have HX5 := Lib.hid (HXc.out.call hb5)
              have HY5 := Lib.hid (HYc.out.call hb5)
              have HB5 := Lib.hid (HBc.out.trans (hb5.mono HBc.out.size))
              have hz5 := hb5.size
              have hne : w.heap.size + 1 ≠ bs := by omega
              have hnx : bx ≠ bs := by omega
              go_upto_region 16 with fail; (try simp only [List.append_eq, List.cons_append, List.nil_append]); go_wp2
              go_roundw
              case rel =>
                refine ⟨k + 1, 0, ⟨3, _, _⟩, by first | rfl | go_num, by go_num, hlt, HFL, ?_, ?_, ?_⟩
                · exact cf7_other HX5.out hne _ _ _
                · exact rs3_put HY5.out ⟨3, _, _⟩
                · have := HB5.out
                  (repeat (first | (with_reducible exact Below.refl _ _) | ((with_reducible refine below_alloc ?_ ?_ _); · (first | omega | (simp; done) | (simp; omega))) | ((with_reducible refine below_setCell ?_ ?_ _); · (first | omega | (simp; done) | (simp; omega))) | (with_reducible refine Below.drew ?_) | (with_reducible refine below_drewN ?_ _) | ((with_reducible refine below_call (by assumption) ?_ ?_); · (first | omega | (simp; done) | (simp; omega)))))
                  all_goals exact HB5.out
              case measure => simp [intOf]; omega
        · rcases (show m = 0 ∨ m = 1 ∨ m = 2 ∨ m = 3 by omega) with rfl | rfl | rfl | rfl
          · as_aux_lemma =>
              have F := HX.out
              clear HX hli hmi hx2
              simp only [lowN, upL, dnL] at F
              obtain ⟨FL, -, F3, F4, F5, F6⟩ := F
              have hu : N < c.u0 := by have := F3 (by decide); simpa using this
              have hu1 : decide (c.u0 ≤ N) = false := decide_eq_false (by omega)
              obtain ⟨hq, hxs⟩ := F4 (by decide)
              subst hxs
              by_cases hd : N < c.d0
              · have hd1 : decide (N < c.d0) = true := decide_eq_true hd
                have hq2 : c.h < low + 1 := by simpa [hd] using hq
                have hq3 : decide (low + 1 ≤ c.h) = false := decide_eq_false (by omega)
                have hq4 : decide (c.h < low + 1) = true := decide_eq_true hq2
                have HFL : Hid (LowIs ⟨0, _, xw⟩ ((k : Int) + 1) (0)) := Lib.hid (by first | exact FL | (simpa using FL; done) | (simpa [hd] using FL))
                clear F3 F4 F5 F6 FL
                obtain ⟨x0, x1, x2, x3, x4, x5, x6⟩ := HXc.out
                obtain ⟨⟨y0, y1, y2⟩, g0, g1, g2⟩ := HYc.out
                obtain ⟨r0, r1, r2⟩ := HRX.out
                simp only at y0 y1 y2 r0 r1 r2
                go_wp2_with fail
                refine (cFx.out _).mono ?_; rintro e w5 ⟨rfl, hb5⟩
                clear x0 x1 x2 x3 x4 x5 x6 y0 y1 y2 g0 g1 g2 r0 r1 r2
                obtain ⟨x0, x1, x2, x3, x4, x5, x6⟩ := HXc.out.call hb5
                obtain ⟨⟨y0, y1, y2⟩, g0, g1, g2⟩ := HYc.out.call hb5
                obtain ⟨r0, r1, r2⟩ := HRX.out.call hb5
                simp only at y0 y1 y2 r0 r1 r2
                have HX5 := Lib.hid (HXc.out.call hb5)
                have HY5 := Lib.hid (HYc.out.call hb5)
                have HB5 := Lib.hid (HBc.out.trans (hb5.mono HBc.out.size))
                have hz5 := hb5.size
                have hne : w.heap.size + 1 ≠ bs := by omega
                have hnx : bx ≠ bs := by omega
                go_upto_region 16 with fail; (try simp only [List.append_eq, List.cons_append, List.nil_append]); go_wp2
                go_roundw
                case rel =>
                  refine ⟨k + 1, 0, ⟨0, _, _⟩, by first | rfl | go_num, by go_num, hlt, HFL, ?_, ?_, ?_⟩
                  · exact cf7_other HX5.out hne _ _ _
                  · exact rs3_put HY5.out ⟨0, _, _⟩
                  · have := HB5.out
                    (repeat (first | (with_reducible exact Below.refl _ _) | ((with_reducible refine below_alloc ?_ ?_ _); · (first | omega | (simp; done) | (simp; omega))) | ((with_reducible refine below_setCell ?_ ?_ _); · (first | omega | (simp; done) | (simp; omega))) | (with_reducible refine Below.drew ?_) | (with_reducible refine below_drewN ?_ _) | ((with_reducible refine below_call (by assumption) ?_ ?_); · (first | omega | (simp; done) | (simp; omega)))))
                    all_goals exact HB5.out
                case measure => simp [intOf]; omega
              · have hd1 : decide (N < c.d0) = false := decide_eq_false hd
                exfalso
                have : c.h < 0 := by simpa [hd] using hq
                omega
          · as_aux_lemma =>
              have F := HX.out
              clear HX hli hmi hx2
              simp only [lowN, upL, dnL] at F
              obtain ⟨FL, -, F3, F4, F5, F6⟩ := F
              have hu : N < c.u1 := by have := F3 (by decide); simpa using this
              have hu1 : decide (c.u1 ≤ N) = false := decide_eq_false (by omega)
              by_cases hd : N < c.d0
              · have hd1 : decide (N < c.d0) = true := decide_eq_true hd
                have hq2 : low + 1 ≤ c.h := by have := F6 (by first | rfl | trivial); simp [hd] at this; omega
                have hq3 : decide (low + 1 ≤ c.h) = true := decide_eq_true hq2
                have hq4 : decide (c.h < low + 1) = false := decide_eq_false (by omega)
                have HFL : Hid (LowIs ⟨1, _, xw⟩ ((k : Int) + 1) (low + 1)) := Lib.hid (by first | exact FL | (simpa using FL; done) | (simpa [hd] using FL))
                clear F3 F4 F5 F6 FL
                obtain ⟨x0, x1, x2, x3, x4, x5, x6⟩ := HXc.out
                obtain ⟨⟨y0, y1, y2⟩, g0, g1, g2⟩ := HYc.out
                obtain ⟨r0, r1, r2⟩ := HRX.out
                simp only at y0 y1 y2 r0 r1 r2
                go_wp2_with fail
                refine (cFx.out _).mono ?_; rintro e w5 ⟨rfl, hb5⟩
                clear x0 x1 x2 x3 x4 x5 x6 y0 y1 y2 g0 g1 g2 r0 r1 r2
                obtain ⟨x0, x1, x2, x3, x4, x5, x6⟩ := HXc.out.call hb5
                obtain ⟨⟨y0, y1, y2⟩, g0, g1, g2⟩ := HYc.out.call hb5
                obtain ⟨r0, r1, r2⟩ := HRX.out.call hb5
                simp only at y0 y1 y2 r0 r1 r2
                have HX5 := Lib.hid (HXc.out.call hb5)
                have HY5 := Lib.hid (HYc.out.call hb5)
                have HB5 := Lib.hid (HBc.out.trans (hb5.mono HBc.out.size))
                have hz5 := hb5.size
                have hne : w.heap.size + 1 ≠ bs := by omega
                have hnx : bx ≠ bs := by omega
                go_upto_region 16 with fail; (try simp only [List.append_eq, List.cons_append, List.nil_append]); go_wp2
                go_roundw
                case rel =>
                  refine ⟨k + 1, low + 1, ⟨1, _, _⟩, by first | rfl | go_num, by go_num, hlt, HFL, ?_, ?_, ?_⟩
                  · exact cf7_other HX5.out hne _ _ _
                  · exact rs3_put HY5.out ⟨1, _, _⟩
                  · have := HB5.out
                    (repeat (first | (with_reducible exact Below.refl _ _) | ((with_reducible refine below_alloc ?_ ?_ _); · (first | omega | (simp; done) | (simp; omega))) | ((with_reducible refine below_setCell ?_ ?_ _); · (first | omega | (simp; done) | (simp; omega))) | (with_reducible refine Below.drew ?_) | (with_reducible refine below_drewN ?_ _) | ((with_reducible refine below_call (by assumption) ?_ ?_); · (first | omega | (simp; done) | (simp; omega)))))
                    all_goals exact HB5.out
                case measure => simp [intOf]; omega
              · have hd1 : decide (N < c.d0) = false := decide_eq_false hd
                have hh : decide (c.h < 0) = false := decide_eq_false (by omega)
                have HFL : Hid (LowIs ⟨1, _, xw⟩ ((k : Int) + 1) (0)) := Lib.hid (by first | exact FL | (simpa using FL; done) | (simpa [hd] using FL))
                clear F3 F4 F5 F6 FL
                obtain ⟨x0, x1, x2, x3, x4, x5, x6⟩ := HXc.out
                obtain ⟨⟨y0, y1, y2⟩, g0, g1, g2⟩ := HYc.out
                obtain ⟨r0, r1, r2⟩ := HRX.out
                simp only at y0 y1 y2 r0 r1 r2
                go_wp2_with fail
                refine (cFx.out _).mono ?_; rintro e w5 ⟨rfl, hb5⟩
                clear x0 x1 x2 x3 x4 x5 x6 y0 y1 y2 g0 g1 g2 r0 r1 r2
                obtain ⟨x0, x1, x2, x3, x4, x5, x6⟩ := HXc.out.call hb5
                obtain ⟨⟨y0, y1, y2⟩, g0, g1, g2⟩ := HYc.out.call hb5
                obtain ⟨r0, r1, r2⟩ := HRX.out.call hb5
                simp only at y0 y1 y2 r0 r1 r2
                have HX5 := Lib.hid (HXc.out.call hb5)
                have HY5 := Lib.hid (HYc.out.call hb5)
                have HB5 := Lib.hid (HBc.out.trans (hb5.mono HBc.out.size))
                have hz5 := hb5.size
                have hne : w.heap.size + 1 ≠ bs := by omega
                have hnx : bx ≠ bs := by omega
                go_upto_region 16 with fail; (try simp only [List.append_eq, List.cons_append, List.nil_append]); go_wp2
                go_roundw
                case rel =>
                  refine ⟨k + 1, 0, ⟨1, _, _⟩, by first | rfl | go_num, by go_num, hlt, HFL, ?_, ?_, ?_⟩
                  · exact cf7_other HX5.out hne _ _ _
                  · exact rs3_put HY5.out ⟨1, _, _⟩
                  · have := HB5.out
                    (repeat (first | (with_reducible exact Below.refl _ _) | ((with_reducible refine below_alloc ?_ ?_ _); · (first | omega | (simp; done) | (simp; omega))) | ((with_reducible refine below_setCell ?_ ?_ _); · (first | omega | (simp; done) | (simp; omega))) | (with_reducible refine Below.drew ?_) | (with_reducible refine below_drewN ?_ _) | ((with_reducible refine below_call (by assumption) ?_ ?_); · (first | omega | (simp; done) | (simp; omega)))))
                    all_goals exact HB5.out
                case measure => simp [intOf]; omega
          · as_aux_lemma =>
              have F := HX.out
              clear HX hli hmi hx2
              simp only [lowN, upL, dnL] at F
              obtain ⟨FL, -, F3, F4, F5, F6⟩ := F
              have hu : N < c.u2 := by have := F3 (by decide); simpa using this
              have hu1 : decide (c.u2 ≤ N) = false := decide_eq_false (by omega)
              obtain ⟨hg, hxs⟩ := F5 (by decide)
              have hg : c.u1 ≤ N := by simpa using hg
              have hg1 : decide (N < c.u1) = false := decide_eq_false (by omega)
              subst hxs
              by_cases hd : N < c.d0
              · have hd1 : decide (N < c.d0) = true := decide_eq_true hd
                exfalso
                omega
              · have hd1 : decide (N < c.d0) = false := decide_eq_false hd
                have hh : decide (c.h < 0) = false := decide_eq_false (by omega)
                have HFL : Hid (LowIs ⟨2, _, xw⟩ ((k : Int) + 1) (0)) := Lib.hid (by first | exact FL | (simpa using FL; done) | (simpa [hd] using FL))
                clear F3 F4 F5 F6 FL
                obtain ⟨x0, x1, x2, x3, x4, x5, x6⟩ := HXc.out
                obtain ⟨⟨y0, y1, y2⟩, g0, g1, g2⟩ := HYc.out
                obtain ⟨r0, r1, r2⟩ := HRX.out
                simp only at y0 y1 y2 r0 r1 r2
                go_wp2_with fail
                refine (cFx.out _).mono ?_; rintro e w5 ⟨rfl, hb5⟩
                clear x0 x1 x2 x3 x4 x5 x6 y0 y1 y2 g0 g1 g2 r0 r1 r2
                obtain ⟨x0, x1, x2, x3, x4, x5, x6⟩ := HXc.out.call hb5
                obtain ⟨⟨y0, y1, y2⟩, g0, g1, g2⟩ := HYc.out.call hb5
                obtain ⟨r0, r1, r2⟩ := HRX.out.call hb5
                simp only at y0 y1 y2 r0 r1 r2
                have HX5 := Lib.hid (HXc.out.call hb5)
                have HY5 := Lib.hid (HYc.out.call hb5)
                have HB5 := Lib.hid (HBc.out.trans (hb5.mono HBc.out.size))
                have hz5 := hb5.size
                have hne : w.heap.size + 1 ≠ bs := by omega
                have hnx : bx ≠ bs := by omega
                go_upto_region 16 with fail; (try simp only [List.append_eq, List.cons_append, List.nil_append]); go_wp2
                go_roundw
                case rel =>
                  refine ⟨k + 1, 0, ⟨2, _, _⟩, by first | rfl | go_num, by go_num, hlt, HFL, ?_, ?_, ?_⟩
                  · exact cf7_other HX5.out hne _ _ _
                  · exact rs3_put HY5.out ⟨2, _, _⟩
                  · have := HB5.out
                    (repeat (first | (with_reducible exact Below.refl _ _) | ((with_reducible refine below_alloc ?_ ?_ _); · (first | omega | (simp; done) | (simp; omega))) | ((with_reducible refine below_setCell ?_ ?_ _); · (first | omega | (simp; done) | (simp; omega))) | (with_reducible refine Below.drew ?_) | (with_reducible refine below_drewN ?_ _) | ((with_reducible refine below_call (by assumption) ?_ ?_); · (first | omega | (simp; done) | (simp; omega)))))
                    all_goals exact HB5.out
                case measure => simp [intOf]; omega
          · as_aux_lemma =>
              have F := HX.out
              clear HX hli hmi hx2
              simp only [lowN, upL, dnL] at F
              obtain ⟨FL, -, F3, F4, F5, F6⟩ := F
              obtain ⟨hg, hxs⟩ := F5 (by decide)
              have hg : c.u1 ≤ N := by simpa using hg
              have hg1 : decide (N < c.u1) = false := decide_eq_false (by omega)
              subst hxs
              by_cases hd : N < c.d0
              · have hd1 : decide (N < c.d0) = true := decide_eq_true hd
                exfalso
                omega
              · have hd1 : decide (N < c.d0) = false := decide_eq_false hd
                have hh : decide (c.h < 0) = false := decide_eq_false (by omega)
                have HFL : Hid (LowIs ⟨3, _, xw⟩ ((k : Int) + 1) (0)) := Lib.hid (by first | exact FL | (simpa using FL; done) | (simpa [hd] using FL))
                clear F3 F4 F5 F6 FL
                obtain ⟨x0, x1, x2, x3, x4, x5, x6⟩ := HXc.out
                obtain ⟨⟨y0, y1, y2⟩, g0, g1, g2⟩ := HYc.out
                obtain ⟨r0, r1, r2⟩ := HRX.out
                simp only at y0 y1 y2 r0 r1 r2
                go_wp2_with fail
                refine (cFx.out _).mono ?_; rintro e w5 ⟨rfl, hb5⟩
                clear x0 x1 x2 x3 x4 x5 x6 y0 y1 y2 g0 g1 g2 r0 r1 r2
                obtain ⟨x0, x1, x2, x3, x4, x5, x6⟩ := HXc.out.call hb5
                obtain ⟨⟨y0, y1, y2⟩, g0, g1, g2⟩ := HYc.out.call hb5
                obtain ⟨r0, r1, r2⟩ := HRX.out.call hb5
                simp only at y0 y1 y2 r0 r1 r2
                have HX5 := Lib.hid (HXc.out.call hb5)
                have HY5 := Lib.hid (HYc.out.call hb5)
                have HB5 := Lib.hid (HBc.out.trans (hb5.mono HBc.out.size))
                have hz5 := hb5.size
                have hne : w.heap.size + 1 ≠ bs := by omega
                have hnx : bx ≠ bs := by omega
                go_upto_region 16 with fail; (try simp only [List.append_eq, List.cons_append, List.nil_append]); go_wp2
                go_roundw
                case rel =>
                  refine ⟨k + 1, 0, ⟨3, _, _⟩, by first | rfl | go_num, by go_num, hlt, HFL, ?_, ?_, ?_⟩
                  · exact cf7_other HX5.out hne _ _ _
                  · exact rs3_put HY5.out ⟨3, _, _⟩
                  · have := HB5.out
                    (repeat (first | (with_reducible exact Below.refl _ _) | ((with_reducible refine below_alloc ?_ ?_ _); · (first | omega | (simp; done) | (simp; omega))) | ((with_reducible refine below_setCell ?_ ?_ _); · (first | omega | (simp; done) | (simp; omega))) | (with_reducible refine Below.drew ?_) | (with_reducible refine below_drewN ?_ _) | ((with_reducible refine below_call (by assumption) ?_ ?_); · (first | omega | (simp; done) | (simp; omega)))))
                    all_goals exact HB5.out
                case measure => simp [intOf]; omega
        · rcases (show m = 1 ∨ m = 2 ∨ m = 3 by omega) with rfl | rfl | rfl
          · as_aux_lemma =>
              have F := HX.out
              clear HX hli hmi hx2
              simp only [lowN, upL, dnL] at F
              obtain ⟨FL, -, F3, F4, F5, F6⟩ := F
              have hu : N < c.u1 := by have := F3 (by decide); simpa using this
              have hu1 : decide (c.u1 ≤ N) = false := decide_eq_false (by omega)
              obtain ⟨hq, hxs⟩ := F4 (by decide)
              subst hxs
              by_cases hd : N < c.d1
              · have hd1 : decide (N < c.d1) = true := decide_eq_true hd
                have hq2 : c.h < low + 1 := by simpa [hd] using hq
                have hq3 : decide (low + 1 ≤ c.h) = false := decide_eq_false (by omega)
                have hq4 : decide (c.h < low + 1) = true := decide_eq_true hq2
                have HFL : Hid (LowIs ⟨1, _, xw⟩ ((k : Int) + 1) (0)) := Lib.hid (by first | exact FL | (simpa using FL; done) | (simpa [hd] using FL))
                clear F3 F4 F5 F6 FL
                obtain ⟨x0, x1, x2, x3, x4, x5, x6⟩ := HXc.out
                obtain ⟨⟨y0, y1, y2⟩, g0, g1, g2⟩ := HYc.out
                obtain ⟨r0, r1, r2⟩ := HRX.out
                simp only at y0 y1 y2 r0 r1 r2
                go_wp2_with fail
                refine (cFx.out _).mono ?_; rintro e w5 ⟨rfl, hb5⟩
                clear x0 x1 x2 x3 x4 x5 x6 y0 y1 y2 g0 g1 g2 r0 r1 r2
                obtain ⟨x0, x1, x2, x3, x4, x5, x6⟩ := HXc.out.call hb5
                obtain ⟨⟨y0, y1, y2⟩, g0, g1, g2⟩ := HYc.out.call hb5
                obtain ⟨r0, r1, r2⟩ := HRX.out.call hb5
                simp only at y0 y1 y2 r0 r1 r2
                have HX5 := Lib.hid (HXc.out.call hb5)
                have HY5 := Lib.hid (HYc.out.call hb5)
                have HB5 := Lib.hid (HBc.out.trans (hb5.mono HBc.out.size))
                have hz5 := hb5.size
                have hne : w.heap.size + 1 ≠ bs := by omega
                have hnx : bx ≠ bs := by omega
                go_upto_region 16 with fail; (try simp only [List.append_eq, List.cons_append, List.nil_append]); go_wp2
                go_roundw
                case rel =>
                  refine ⟨k + 1, 0, ⟨1, _, _⟩, by first | rfl | go_num, by go_num, hlt, HFL, ?_, ?_, ?_⟩
                  · exact cf7_other HX5.out hne _ _ _
                  · exact rs3_put HY5.out ⟨1, _, _⟩
                  · have := HB5.out
                    (repeat (first | (with_reducible exact Below.refl _ _) | ((with_reducible refine below_alloc ?_ ?_ _); · (first | omega | (simp; done) | (simp; omega))) | ((with_reducible refine below_setCell ?_ ?_ _); · (first | omega | (simp; done) | (simp; omega))) | (with_reducible refine Below.drew ?_) | (with_reducible refine below_drewN ?_ _) | ((with_reducible refine below_call (by assumption) ?_ ?_); · (first | omega | (simp; done) | (simp; omega)))))
                    all_goals exact HB5.out
                case measure => simp [intOf]; omega
              · have hd1 : decide (N < c.d1) = false := decide_eq_false hd
                exfalso
                have : c.h < 0 := by simpa [hd] using hq
                omega
          · as_aux_lemma =>
              have F := HX.out
              clear HX hli hmi hx2
              simp only [lowN, upL, dnL] at F
              obtain ⟨FL, -, F3, F4, F5, F6⟩ := F
              have hu : N < c.u2 := by have := F3 (by decide); simpa using this
              have hu1 : decide (c.u2 ≤ N) = false := decide_eq_false (by omega)
              by_cases hd : N < c.d1
              · have hd1 : decide (N < c.d1) = true := decide_eq_true hd
                have hq2 : low + 1 ≤ c.h := by have := F6 (by first | rfl | trivial); simp [hd] at this; omega
                have hq3 : decide (low + 1 ≤ c.h) = true := decide_eq_true hq2
                have hq4 : decide (c.h < low + 1) = false := decide_eq_false (by omega)
                have HFL : Hid (LowIs ⟨2, _, xw⟩ ((k : Int) + 1) (low + 1)) := Lib.hid (by first | exact FL | (simpa using FL; done) | (simpa [hd] using FL))
                clear F3 F4 F5 F6 FL
                obtain ⟨x0, x1, x2, x3, x4, x5, x6⟩ := HXc.out
                obtain ⟨⟨y0, y1, y2⟩, g0, g1, g2⟩ := HYc.out
                obtain ⟨r0, r1, r2⟩ := HRX.out
                simp only at y0 y1 y2 r0 r1 r2
                go_wp2_with fail
                refine (cFx.out _).mono ?_; rintro e w5 ⟨rfl, hb5⟩
                clear x0 x1 x2 x3 x4 x5 x6 y0 y1 y2 g0 g1 g2 r0 r1 r2
                obtain ⟨x0, x1, x2, x3, x4, x5, x6⟩ := HXc.out.call hb5
                obtain ⟨⟨y0, y1, y2⟩, g0, g1, g2⟩ := HYc.out.call hb5
                obtain ⟨r0, r1, r2⟩ := HRX.out.call hb5
                simp only at y0 y1 y2 r0 r1 r2
                have HX5 := Lib.hid (HXc.out.call hb5)
                have HY5 := Lib.hid (HYc.out.call hb5)
                have HB5 := Lib.hid (HBc.out.trans (hb5.mono HBc.out.size))
                have hz5 := hb5.size
                have hne : w.heap.size + 1 ≠ bs := by omega
                have hnx : bx ≠ bs := by omega
                go_upto_region 16 with fail; (try simp only [List.append_eq, List.cons_append, List.nil_append]); go_wp2
                go_roundw
                case rel =>
                  refine ⟨k + 1, low + 1, ⟨2, _, _⟩, by first | rfl | go_num, by go_num, hlt, HFL, ?_, ?_, ?_⟩
                  · exact cf7_other HX5.out hne _ _ _
                  · exact rs3_put HY5.out ⟨2, _, _⟩
                  · have := HB5.out
                    (repeat (first | (with_reducible exact Below.refl _ _) | ((with_reducible refine below_alloc ?_ ?_ _); · (first | omega | (simp; done) | (simp; omega))) | ((with_reducible refine below_setCell ?_ ?_ _); · (first | omega | (simp; done) | (simp; omega))) | (with_reducible refine Below.drew ?_) | (with_reducible refine below_drewN ?_ _) | ((with_reducible refine below_call (by assumption) ?_ ?_); · (first | omega | (simp; done) | (simp; omega)))))
                    all_goals exact HB5.out
                case measure => simp [intOf]; omega
              · have hd1 : decide (N < c.d1) = false := decide_eq_false hd
                have hh : decide (c.h < 0) = false := decide_eq_false (by omega)
                have HFL : Hid (LowIs ⟨2, _, xw⟩ ((k : Int) + 1) (0)) := Lib.hid (by first | exact FL | (simpa using FL; done) | (simpa [hd] using FL))
                clear F3 F4 F5 F6 FL
                obtain ⟨x0, x1, x2, x3, x4, x5, x6⟩ := HXc.out
                obtain ⟨⟨y0, y1, y2⟩, g0, g1, g2⟩ := HYc.out
                obtain ⟨r0, r1, r2⟩ := HRX.out
                simp only at y0 y1 y2 r0 r1 r2
                go_wp2_with fail
                refine (cFx.out _).mono ?_; rintro e w5 ⟨rfl, hb5⟩
                clear x0 x1 x2 x3 x4 x5 x6 y0 y1 y2 g0 g1 g2 r0 r1 r2
                obtain ⟨x0, x1, x2, x3, x4, x5, x6⟩ := HXc.out.call hb5
                obtain ⟨⟨y0, y1, y2⟩, g0, g1, g2⟩ := HYc.out.call hb5
                obtain ⟨r0, r1, r2⟩ := HRX.out.call hb5
                simp only at y0 y1 y2 r0 r1 r2
                have HX5 := Lib.hid (HXc.out.call hb5)
                have HY5 := Lib.hid (HYc.out.call hb5)
                have HB5 := Lib.hid (HBc.out.trans (hb5.mono HBc.out.size))
                have hz5 := hb5.size
                have hne : w.heap.size + 1 ≠ bs := by omega
                have hnx : bx ≠ bs := by omega
                go_upto_region 16 with fail; (try simp only [List.append_eq, List.cons_append, List.nil_append]); go_wp2
                go_roundw
                case rel =>
                  refine ⟨k + 1, 0, ⟨2, _, _⟩, by first | rfl | go_num, by go_num, hlt, HFL, ?_, ?_, ?_⟩
                  · exact cf7_other HX5.out hne _ _ _
                  · exact rs3_put HY5.out ⟨2, _, _⟩
                  · have := HB5.out
                    (repeat (first | (with_reducible exact Below.refl _ _) | ((with_reducible refine below_alloc ?_ ?_ _); · (first | omega | (simp; done) | (simp; omega))) | ((with_reducible refine below_setCell ?_ ?_ _); · (first | omega | (simp; done) | (simp; omega))) | (with_reducible refine Below.drew ?_) | (with_reducible refine below_drewN ?_ _) | ((with_reducible refine below_call (by assumption) ?_ ?_); · (first | omega | (simp; done) | (simp; omega)))))
                    all_goals exact HB5.out
                case measure => simp [intOf]; omega
          · as_aux_lemma =>
              have F := HX.out
              clear HX hli hmi hx2
              simp only [lowN, upL, dnL] at F
              obtain ⟨FL, -, F3, F4, F5, F6⟩ := F
              obtain ⟨hg, hxs⟩ := F5 (by decide)
              have hg : c.u2 ≤ N := by simpa using hg
              have hg1 : decide (N < c.u2) = false := decide_eq_false (by omega)
              subst hxs
              by_cases hd : N < c.d1
              · have hd1 : decide (N < c.d1) = true := decide_eq_true hd
                exfalso
                omega
              · have hd1 : decide (N < c.d1) = false := decide_eq_false hd
                have hh : decide (c.h < 0) = false := decide_eq_false (by omega)
                have HFL : Hid (LowIs ⟨3, _, xw⟩ ((k : Int) + 1) (0)) := Lib.hid (by first | exact FL | (simpa using FL; done) | (simpa [hd] using FL))
                clear F3 F4 F5 F6 FL
                obtain ⟨x0, x1, x2, x3, x4, x5, x6⟩ := HXc.out
                obtain ⟨⟨y0, y1, y2⟩, g0, g1, g2⟩ := HYc.out
                obtain ⟨r0, r1, r2⟩ := HRX.out
                simp only at y0 y1 y2 r0 r1 r2
                go_wp2_with fail
                refine (cFx.out _).mono ?_; rintro e w5 ⟨rfl, hb5⟩
                clear x0 x1 x2 x3 x4 x5 x6 y0 y1 y2 g0 g1 g2 r0 r1 r2
                obtain ⟨x0, x1, x2, x3, x4, x5, x6⟩ := HXc.out.call hb5
                obtain ⟨⟨y0, y1, y2⟩, g0, g1, g2⟩ := HYc.out.call hb5
                obtain ⟨r0, r1, r2⟩ := HRX.out.call hb5
                simp only at y0 y1 y2 r0 r1 r2
                have HX5 := Lib.hid (HXc.out.call hb5)
                have HY5 := Lib.hid (HYc.out.call hb5)
                have HB5 := Lib.hid (HBc.out.trans (hb5.mono HBc.out.size))
                have hz5 := hb5.size
                have hne : w.heap.size + 1 ≠ bs := by omega
                have hnx : bx ≠ bs := by omega
                go_upto_region 16 with fail; (try simp only [List.append_eq, List.cons_append, List.nil_append]); go_wp2
                go_roundw
                case rel =>
                  refine ⟨k + 1, 0, ⟨3, _, _⟩, by first | rfl | go_num, by go_num, hlt, HFL, ?_, ?_, ?_⟩
                  · exact cf7_other HX5.out hne _ _ _
                  · exact rs3_put HY5.out ⟨3, _, _⟩
                  · have := HB5.out
                    (repeat (first | (with_reducible exact Below.refl _ _) | ((with_reducible refine below_alloc ?_ ?_ _); · (first | omega | (simp; done) | (simp; omega))) | ((with_reducible refine below_setCell ?_ ?_ _); · (first | omega | (simp; done) | (simp; omega))) | (with_reducible refine Below.drew ?_) | (with_reducible refine below_drewN ?_ _) | ((with_reducible refine below_call (by assumption) ?_ ?_); · (first | omega | (simp; done) | (simp; omega)))))
                    all_goals exact HB5.out
                case measure => simp [intOf]; omega
        · rcases (show m = 2 ∨ m = 3 by omega) with rfl | rfl
          · as_aux_lemma =>
              have F := HX.out
              clear HX hli hmi hx2
              simp only [lowN, upL, dnL] at F
              obtain ⟨FL, -, F3, F4, F5, F6⟩ := F
              have hu : N < c.u2 := by have := F3 (by decide); simpa using this
              have hu1 : decide (c.u2 ≤ N) = false := decide_eq_false (by omega)
              obtain ⟨hq, hxs⟩ := F4 (by decide)
              subst hxs
              by_cases hd : N < c.d2
              · have hd1 : decide (N < c.d2) = true := decide_eq_true hd
                have hq2 : c.h < low + 1 := by simpa [hd] using hq
                have hq3 : decide (low + 1 ≤ c.h) = false := decide_eq_false (by omega)
                have hq4 : decide (c.h < low + 1) = true := decide_eq_true hq2
                have HFL : Hid (LowIs ⟨2, _, xw⟩ ((k : Int) + 1) (0)) := Lib.hid (by first | exact FL | (simpa using FL; done) | (simpa [hd] using FL))
                clear F3 F4 F5 F6 FL
                obtain ⟨x0, x1, x2, x3, x4, x5, x6⟩ := HXc.out
                obtain ⟨⟨y0, y1, y2⟩, g0, g1, g2⟩ := HYc.out
                obtain ⟨r0, r1, r2⟩ := HRX.out
                simp only at y0 y1 y2 r0 r1 r2
                go_wp2_with fail
                refine (cFx.out _).mono ?_; rintro e w5 ⟨rfl, hb5⟩
                clear x0 x1 x2 x3 x4 x5 x6 y0 y1 y2 g0 g1 g2 r0 r1 r2
                obtain ⟨x0, x1, x2, x3, x4, x5, x6⟩ := HXc.out.call hb5
                obtain ⟨⟨y0, y1, y2⟩, g0, g1, g2⟩ := HYc.out.call hb5
                obtain ⟨r0, r1, r2⟩ := HRX.out.call hb5
                simp only at y0 y1 y2 r0 r1 r2
                have HX5 := Lib.hid (HXc.out.call hb5)
                have HY5 := Lib.hid (HYc.out.call hb5)
                have HB5 := Lib.hid (HBc.out.trans (hb5.mono HBc.out.size))
                have hz5 := hb5.size
                have hne : w.heap.size + 1 ≠ bs := by omega
                have hnx : bx ≠ bs := by omega
                go_upto_region 16 with fail; (try simp only [List.append_eq, List.cons_append, List.nil_append]); go_wp2
                go_roundw
                case rel =>
                  refine ⟨k + 1, 0, ⟨2, _, _⟩, by first | rfl | go_num, by go_num, hlt, HFL, ?_, ?_, ?_⟩
                  · exact cf7_other HX5.out hne _ _ _
                  · exact rs3_put HY5.out ⟨2, _, _⟩
                  · have := HB5.out
                    (repeat (first | (with_reducible exact Below.refl _ _) | ((with_reducible refine below_alloc ?_ ?_ _); · (first | omega | (simp; done) | (simp; omega))) | ((with_reducible refine below_setCell ?_ ?_ _); · (first | omega | (simp; done) | (simp; omega))) | (with_reducible refine Below.drew ?_) | (with_reducible refine below_drewN ?_ _) | ((with_reducible refine below_call (by assumption) ?_ ?_); · (first | omega | (simp; done) | (simp; omega)))))
                    all_goals exact HB5.out
                case measure => simp [intOf]; omega
              · have hd1 : decide (N < c.d2) = false := decide_eq_false hd
                exfalso
                have : c.h < 0 := by simpa [hd] using hq
                omega
          · as_aux_lemma =>
              have F := HX.out
              clear HX hli hmi hx2
              simp only [lowN, upL, dnL] at F
              obtain ⟨FL, -, F3, F4, F5, F6⟩ := F
              by_cases hd : N < c.d2
              · have hd1 : decide (N < c.d2) = true := decide_eq_true hd
                have hq2 : low + 1 ≤ c.h := by have := F6 (by first | rfl | trivial); simp [hd] at this; omega
                have hq3 : decide (low + 1 ≤ c.h) = true := decide_eq_true hq2
                have hq4 : decide (c.h < low + 1) = false := decide_eq_false (by omega)
                have HFL : Hid (LowIs ⟨3, _, xw⟩ ((k : Int) + 1) (low + 1)) := Lib.hid (by first | exact FL | (simpa using FL; done) | (simpa [hd] using FL))
                clear F3 F4 F5 F6 FL
                obtain ⟨x0, x1, x2, x3, x4, x5, x6⟩ := HXc.out
                obtain ⟨⟨y0, y1, y2⟩, g0, g1, g2⟩ := HYc.out
                obtain ⟨r0, r1, r2⟩ := HRX.out
                simp only at y0 y1 y2 r0 r1 r2
                go_wp2_with fail
                refine (cFx.out _).mono ?_; rintro e w5 ⟨rfl, hb5⟩
                clear x0 x1 x2 x3 x4 x5 x6 y0 y1 y2 g0 g1 g2 r0 r1 r2
                obtain ⟨x0, x1, x2, x3, x4, x5, x6⟩ := HXc.out.call hb5
                obtain ⟨⟨y0, y1, y2⟩, g0, g1, g2⟩ := HYc.out.call hb5
                obtain ⟨r0, r1, r2⟩ := HRX.out.call hb5
                simp only at y0 y1 y2 r0 r1 r2
                have HX5 := Lib.hid (HXc.out.call hb5)
                have HY5 := Lib.hid (HYc.out.call hb5)
                have HB5 := Lib.hid (HBc.out.trans (hb5.mono HBc.out.size))
                have hz5 := hb5.size
                have hne : w.heap.size + 1 ≠ bs := by omega
                have hnx : bx ≠ bs := by omega
                go_upto_region 16 with fail; (try simp only [List.append_eq, List.cons_append, List.nil_append]); go_wp2
                go_roundw
                case rel =>
                  refine ⟨k + 1, low + 1, ⟨3, _, _⟩, by first | rfl | go_num, by go_num, hlt, HFL, ?_, ?_, ?_⟩
                  · exact cf7_other HX5.out hne _ _ _
                  · exact rs3_put HY5.out ⟨3, _, _⟩
                  · have := HB5.out
                    (repeat (first | (with_reducible exact Below.refl _ _) | ((with_reducible refine below_alloc ?_ ?_ _); · (first | omega | (simp; done) | (simp; omega))) | ((with_reducible refine below_setCell ?_ ?_ _); · (first | omega | (simp; done) | (simp; omega))) | (with_reducible refine Below.drew ?_) | (with_reducible refine below_drewN ?_ _) | ((with_reducible refine below_call (by assumption) ?_ ?_); · (first | omega | (simp; done) | (simp; omega)))))
                    all_goals exact HB5.out
                case measure => simp [intOf]; omega
              · have hd1 : decide (N < c.d2) = false := decide_eq_false hd
                have hh : decide (c.h < 0) = false := decide_eq_false (by omega)
                have HFL : Hid (LowIs ⟨3, _, xw⟩ ((k : Int) + 1) (0)) := Lib.hid (by first | exact FL | (simpa using FL; done) | (simpa [hd] using FL))
                clear F3 F4 F5 F6 FL
                obtain ⟨x0, x1, x2, x3, x4, x5, x6⟩ := HXc.out
                obtain ⟨⟨y0, y1, y2⟩, g0, g1, g2⟩ := HYc.out
                obtain ⟨r0, r1, r2⟩ := HRX.out
                simp only at y0 y1 y2 r0 r1 r2
                go_wp2_with fail
                refine (cFx.out _).mono ?_; rintro e w5 ⟨rfl, hb5⟩
                clear x0 x1 x2 x3 x4 x5 x6 y0 y1 y2 g0 g1 g2 r0 r1 r2
                obtain ⟨x0, x1, x2, x3, x4, x5, x6⟩ := HXc.out.call hb5
                obtain ⟨⟨y0, y1, y2⟩, g0, g1, g2⟩ := HYc.out.call hb5
                obtain ⟨r0, r1, r2⟩ := HRX.out.call hb5
                simp only at y0 y1 y2 r0 r1 r2
                have HX5 := Lib.hid (HXc.out.call hb5)
                have HY5 := Lib.hid (HYc.out.call hb5)
                have HB5 := Lib.hid (HBc.out.trans (hb5.mono HBc.out.size))
                have hz5 := hb5.size
                have hne : w.heap.size + 1 ≠ bs := by omega
                have hnx : bx ≠ bs := by omega
                go_upto_region 16 with fail; (try simp only [List.append_eq, List.cons_append, List.nil_append]); go_wp2
                go_roundw
                case rel =>
                  refine ⟨k + 1, 0, ⟨3, _, _⟩, by first | rfl | go_num, by go_num, hlt, HFL, ?_, ?_, ?_⟩
                  · exact cf7_other HX5.out hne _ _ _
                  · exact rs3_put HY5.out ⟨3, _, _⟩
                  · have := HB5.out
                    (repeat (first | (with_reducible exact Below.refl _ _) | ((with_reducible refine below_alloc ?_ ?_ _); · (first | omega | (simp; done) | (simp; omega))) | ((with_reducible refine below_setCell ?_ ?_ _); · (first | omega | (simp; done) | (simp; omega))) | (with_reducible refine Below.drew ?_) | (with_reducible refine below_drewN ?_ _) | ((with_reducible refine below_call (by assumption) ?_ ?_); · (first | omega | (simp; done) | (simp; omega)))))
                    all_goals exact HB5.out
                case measure => simp [intOf]; omega
    · obtain rfl : k = l.length := by omega
      go_wp2_with fail
      refine (aw.out _).mono ?_; rintro e w3 ⟨rfl, hb3⟩
      go_wp2
      go_ret
      exact ⟨rfl, hB.trans (hb3.mono hB.size)⟩

set_option maxRecDepth 100000 in
theorem lstays_lifted (os : Os) (started : os.Started) (H : Type) (enc : TypeId × Value → H) :
    ReturnsInHanded {} Try.checked os 5 .any (Rows.levelStaysSpec.pre6 enc Try.prog Try.f5 Rows.levelStaysRow.domain false) (Rows.levelStaysSpec.post enc Try.prog Try.f5 false true false false) := by
  refine returnsInHanded_of_change (C := Try.checked) own started (by kernel_rfl) Try.func5
    (ChangeSpec.witness6 (enc := enc) (C := Try.checked) false ⟨#[], #[.agg #[.int .i64 0, .int .i64 0, .int .i64 0, .int .i64 0, .int .i64 0, .int .i64 0, .int .i64 0], .slice none 0 0], []⟩ 8 (by kernel_rfl) (by kernel_rfl) (by kernel_rfl) (by kernel_rfl)) ?_
  intro W base args ds gs before hval0 hW hcnd _
  have hval : ∀ (j : Nat) t v, Try.f5.params[j]? = some t → args[j]? = some v → Value.okWide Try.prog W .any base t v := hval0
  have hW' := hW
  obtain ⟨p, q, hA0, hV, rfl, hfz, hnd⟩ := hW
  have hA : DataW.TrodAll enc Try.prog W 0 (fun _ => true) true Try.f5.params.toList args.toList ds p := hA0
  rw [Try.params5] at hA hval
  obtain ⟨v0, vs0, d0, ds0, p0, q0, hargs, rfl, rfl, h0, r0⟩ := trodAll_cons hA
  obtain ⟨v1, vs1, d1, ds1, p1, q1, rfl, rfl, rfl, h1, r1⟩ := trodAll_cons r0
  obtain ⟨rfl, rfl, rfl⟩ := trodAll_nil r1
  obtain rfl : args = #[v0, v1] := by cases args; simp_all
  obtain ⟨rfl, rfl⟩ := trodVars_none hV
  obtain ⟨c, rfl⟩ := open_lconf (hval 0 24 v0 rfl rfl) h0
  obtain ⟨l, hl, hln, hls⟩ := open_nums_k Try.underlying50 Try.underlying5 (by kernel_rfl) (hval 1 50 v1 rfl rfl) h1
  refine (lstays_walk c v1 l W hl (fun n hn => bounds_u8 (hls n hn))).mono fun e W' ⟨he, hb⟩ => ?_
  subst he
  exact ⟨_, rfl, law_post rfl rfl Try.underlying4 (by kernel_rfl) rfl hW' hb⟩
theorem lstays_holds : Rows.LevelStaysSaid :=
  OpenClaim.holds_of_wide 5 Try.f5 rfl rfl rfl rfl rfl rfl rfl ⟨rfl, rfl, rfl, rfl, rfl⟩ rfl rfl rfl rfl rfl (by kernel_rfl) Try.func5 (by kernel_rfl)
    (of_decide_eq_true (by kernel_rfl)) (by unfold Func.isWrapper; first | (rw [if_pos (by decide +kernel)]; kernel_rfl) | (rw [if_neg (by decide +kernel)]; exact ⟨rfl, rfl⟩))
    (fun os started H enc _ => lstays_lifted os started H enc)
end Go.Proofs.Ytjnonngnkkdmdaa
