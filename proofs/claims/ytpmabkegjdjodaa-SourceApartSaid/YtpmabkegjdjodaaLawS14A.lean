/- SourceApart: of each source as many are taken as of a bucket of its own, unless there are too many sources; in any stretch of ticks no more than the burst, and the rate times its ticks: the statement holds for every input. No condition. -/
import Derived.Test.YtpmabkegjdjodaaS14W
import Derived.Test.YtpmabkegjdjodaaS14K
import Derived.Test.YtpmabkegjdjodaaS14L
import Derived.Test.YtpmabkegjdjodaaLawAsk
import Derived.Deep.DeepCutAuto
namespace Go.Proofs.Ytpmabkegjdjodaa
open Go.RowKit Go.ChangeShapes Go.WideShapes Go.ChangeAt
set_option linter.unusedVariables false
set_option linter.unusedSimpArgs false

theorem may_small (m : Nat) (h : m < 10) : mayS (m : Int) = true := decide_eq_true ⟨by omega, by omega⟩
theorem ar_zero (w : World) (t : TypeId) : AR (w.alloc (.cells #[.int .i64 0, .int .i64 0, .int .i64 0, .int .i64 0, .int .i64 0, .int .i64 0, .int .i64 0, .int .i64 0, .int .i64 0, .int .i64 0, .int .i64 0, .int .i64 0, .int .i64 0, .int .i64 0, .int .i64 0, .int .i64 0, .int .i64 0, .int .i64 0, .int .i64 0, .int .i64 0] t)) w.heap.size (fun _ => (0, 0)) := by
  intro k hk
  have h : k = 0 ∨ k = 1 ∨ k = 2 ∨ k = 3 ∨ k = 4 ∨ k = 5 ∨ k = 6 ∨ k = 7 ∨ k = 8 ∨ k = 9 := by omega
  rcases h with rfl | rfl | rfl | rfl | rfl | rfl | rfl | rfl | rfl | rfl <;> simp [go_sem]
theorem tk_nil (w : World) (t : TypeId) : TK (w.alloc (.cells #[.slice none 0 0, .slice none 0 0, .slice none 0 0, .slice none 0 0, .slice none 0 0, .slice none 0 0, .slice none 0 0, .slice none 0 0, .slice none 0 0, .slice none 0 0] t)) w.heap.size (w.heap.size + 1) (fun _ => .slice none 0 0) (fun _ => []) := by
  refine ⟨fun k hk => ?_, fun j k _ _ _ => .inl rfl⟩
  refine ⟨?_, ?_, OwnR.nil _ _ _ _ _⟩
  all_goals
    have h : k = 0 ∨ k = 1 ∨ k = 2 ∨ k = 3 ∨ k = 4 ∨ k = 5 ∨ k = 6 ∨ k = 7 ∨ k = 8 ∨ k = 9 := by omega
    rcases h with rfl | rfl | rfl | rfl | rfl | rfl | rfl | rfl | rfl | rfl <;> simp [go_sem]
theorem rw2_new {W w1 : World} {t : TypeId} {x y : Int} (hb : Below (W.alloc (.cells #[.int .i64 x, .int .i64 y] t)).drew.heap.size (W.alloc (.cells #[.int .i64 x, .int .i64 y] t)).drew w1) : Rw2 w1 W.heap.size x y := Rw2.call (by simp [Rw2, Bx2, go_sem]) hb
set_option maxRecDepth 100000 in
set_option maxHeartbeats 16000000 in
theorem sapart_walk (n0 n1 : Int) (v : Value) (l : List (Int × Int)) (w : World) (h0 : 0 ≤ n0 ∧ n0 ≤ 255) (h1 : 0 ≤ n1 ∧ n1 ≤ 255) (hv : IsR 2 akC w v l) (hb8 : ∀ n ∈ l, (0 ≤ n.1 ∧ n.1 ≤ 255) ∧ 0 ≤ n.2 ∧ n.2 ≤ 255) :
    Calls Try.prog 4 #[.int .u8 n0, .int .u8 n1, v] w fun e w' => e = .returned (.bool true) ∧ Below w.heap.size w w' := by
  have aw := Lib.hid (fun W => awake_any W)
  obtain ⟨p, cap, rfl, -, hp⟩ := hv
  have HP := Lib.hid hp
  have H8 := Lib.hid hb8
  clear hp hb8
  by_cases hl : l.length ≤ 60
  case neg =>
    have hl' : (60 : Int) < l.length := by omega
    clear hl
    go_enter Try.func4, Try.ntmps4
    go_wp2_with fail
    refine (aw.out _).mono ?_; rintro e w1 ⟨rfl, hb1⟩
    go_wp2
    go_ret
    exact ⟨rfl, by (repeat (first | (with_reducible exact Below.refl _ _) | ((with_reducible refine below_alloc ?_ ?_ _); · (first | omega | (simp; done) | (simp; omega))) | ((with_reducible refine below_setCell ?_ ?_ _); · (first | omega | (simp; done) | (simp; omega))) | (with_reducible refine Below.drew ?_) | (with_reducible refine below_drewN ?_ _) | ((with_reducible refine below_call (by assumption) ?_ ?_); · (first | omega | (simp; done) | (simp; omega)))))⟩
  have hl' : ¬ (60 : Int) < l.length := by omega
  go_enter Try.func4, Try.ntmps4
  go_upto_region 5 with fail
  refine gen_world (F := fun W => Bx2 W w.heap.size (1 + n0 % 16) (n1 % 5) ∧ AR W (w.heap.size + 1) (fun _ => (0, 0)) ∧ Below w.heap.size w W) ⟨by simp [Bx2, go_sem], (by have h := ar_zero (w.alloc (.cells #[.int .i64 (1 + n0 % 16), .int .i64 (n1 % 5)] 27)) 53; rw [World.size_alloc] at h; exact h), by (repeat (first | (with_reducible exact Below.refl _ _) | ((with_reducible refine below_alloc ?_ ?_ _); · (first | omega | (simp; done) | (simp; omega))) | ((with_reducible refine below_setCell ?_ ?_ _); · (first | omega | (simp; done) | (simp; omega))) | (with_reducible refine Below.drew ?_) | (with_reducible refine below_drewN ?_ _) | ((with_reducible refine below_call (by assumption) ?_ ?_); · (first | omega | (simp; done) | (simp; omega)))))⟩ (fun W hF => ?_)
  obtain ⟨X, Y, hB0⟩ := hF
  have hb16 : 1 ≤ 1 + n0 % 16 ∧ 1 + n0 % 16 ≤ 16 := by omega
  have hr4 : 0 ≤ n1 % 5 ∧ n1 % 5 ≤ 4 := by omega
  generalize 1 + n0 % 16 = B at *
  generalize n1 % 5 = R at *
  have hcn : cnfB B R = true := cnf_iff.2 ⟨by omega, by omega⟩
  have hA0 := Lib.hid (Apart.start hcn)
  have cF := Lib.hid (fun W => bfull_any B R 0 W)
  rw [show hldN 0 0 1099511627776 = 0 from by decide +kernel] at cF
  simp only [twV] at cF
  clear hcn h0 h1
  go_wp2
  go_loopw [9] (fun i wr => ∃ k : Nat, i = .int .i64 k ∧ k ≤ 10 ∧ Bx2 wr w.heap.size B R ∧ AR wr (w.heap.size + 1) (fun j => if j < k then (B, 0) else (0, 0)) ∧ Below w.heap.size w wr) (fun i _ => 10 - (intOf i).toNat)
  case atStart => exact ⟨0, rfl, by omega, X, Y.eq (fun k _ => by simp), hB0⟩
  case round =>
    clear X Y hB0
    obtain ⟨k, rfl, hk, hX, hY, hB⟩ := hrel
    have HX := Lib.hid hX
    have HY := Lib.hid hY
    by_cases hlt : k < 10
    · have hlt' : (k : Int) < 10 := by omega
      obtain ⟨x0, x1⟩ := id hX
      clear hX hY
      go_wp2_with fail
      refine (cF.out _).mono ?_; rintro e w1 ⟨rfl, hb1⟩
      have hY1 := HY.out.call hb1
      have hX1 := HX.out.call hb1
      have B1 := hB.trans (hb1.mono hB.size)
      obtain ⟨⟨y0, y1⟩, f0, f1⟩ := hY1 k hlt
      have HY1 := Lib.hid hY1
      have HX1 := Lib.hid hX1
      clear hY1 hX1 hb1 x0 x1
      go_wp2
      go_roundw
      case rel =>
        refine ⟨k + 1, by go_num, by omega, ?_, (HY1.out.set hlt B 0).eq (fun j hj => ?_), ?_⟩
        · have := HX1.out
          simpa [Bx2, go_sem] using this
        · by_cases e : j = k
          · subst e; simp
          · simp only [if_neg e]
            by_cases e2 : j < k
            · rw [if_pos e2, if_pos (by omega)]
            · rw [if_neg e2, if_neg (by omega)]
        · exact (B1.setCell (p := ⟨w.heap.size + 1, k * 2, none⟩) (Nat.le_succ _) _).setCell (p := ⟨w.heap.size + 1, k * 2 + 1, none⟩) (Nat.le_succ _) _
      case measure => simp [intOf]; omega
    · have hge : (10 : Int) ≤ k := by omega
      have HY2 : Hid (AR wr (w.heap.size + 1) (fun j => (B, 0))) := Lib.hid (hY.eq (fun j hj => by rw [if_pos (by omega)]))
      have hz := hY.lt
      clear hX hY HY
      go_upto_region 11 with fail
      refine gen_world (F := fun V => (Bx2 V w.heap.size B R ∧ AR V (w.heap.size + 1) (fun _ => (B, 0))) ∧ TK V wr.heap.size (wr.heap.size + 1) (fun _ => .slice none 0 0) (fun _ => []) ∧ Below w.heap.size w V) ⟨⟨HX.out.call (by (repeat (first | (with_reducible exact Below.refl _ _) | ((with_reducible refine below_alloc ?_ ?_ _); · (first | omega | (simp; done) | (simp; omega))) | ((with_reducible refine below_setCell ?_ ?_ _); · (first | omega | (simp; done) | (simp; omega))) | (with_reducible refine Below.drew ?_) | (with_reducible refine below_drewN ?_ _) | ((with_reducible refine below_call (by assumption) ?_ ?_); · (first | omega | (simp; done) | (simp; omega)))))), HY2.out.call (by (repeat (first | (with_reducible exact Below.refl _ _) | ((with_reducible refine below_alloc ?_ ?_ _); · (first | omega | (simp; done) | (simp; omega))) | ((with_reducible refine below_setCell ?_ ?_ _); · (first | omega | (simp; done) | (simp; omega))) | (with_reducible refine Below.drew ?_) | (with_reducible refine below_drewN ?_ _) | ((with_reducible refine below_call (by assumption) ?_ ?_); · (first | omega | (simp; done) | (simp; omega))))))⟩, tk_nil _ _, below_alloc hB.size hB _⟩ (fun V hF => ?_)
      generalize wr.heap.size = tb at hF hz ⊢
      obtain ⟨⟨hX, hY⟩, hK, hBV⟩ := hF
      have hTk0 := Lib.hid (Took.start B R (fun _ => (B, 0)))
      clear HX HY2 hB cF hlt hge hk
      go_wp2
      go_loopw [10, 12, 13] (fun st now i wr => ∃ (k : Nat) (N : Int) (S : List En) (own : Int → Int × Int) (vs : Nat → Value) (g : Nat → List Int), i = .int .i64 k ∧ now = .int .i64 N ∧ k ≤ l.length ∧ (0 ≤ N ∧ N ≤ 255 * k) ∧ Hid (Apart B R S own N) ∧ Hid (Took B R own g k) ∧ IsR 3 enC wr st S ∧ Sep wr tb vs st ∧ (Bx2 wr w.heap.size B R ∧ AR wr (w.heap.size + 1) (fun j => own (j : Int))) ∧ TK wr tb (tb + 1) vs g ∧ Below w.heap.size w wr) (fun _ _ i _ => l.length - (intOf i).toNat)
      case atStart => exact ⟨0, 0, [], _, _, _, rfl, rfl, by omega, by omega, hA0, hTk0, IsR.nil 3 enC _, Sep.nil _ _ _, ⟨hX, hY⟩, hK, hBV⟩
      case round =>
        clear hX hY hK hBV hA0 hTk0
        obtain ⟨k, N, S, own, vs, g, rfl, rfl, hk, hN, HA, HT, hI, hSep, ⟨hX, hY⟩, hK, hB⟩ := hrel
        have HI := Lib.hid hI
        have HX := Lib.hid hX
        have HY := Lib.hid hY
        have HK := Lib.hid hK
        have HSep := Lib.hid hSep
        have htb := hK.lt
        have hS8 := (chk_iff.1 HA.out.c).2.1
        obtain ⟨ps, cs, es⟩ : ∃ p c, u10 = .slice p S.length c := by obtain ⟨p, c, h, _⟩ := hI; exact ⟨p, c, h⟩
        subst es
        clear hI hSep hK
        by_cases hlt : k < l.length
        · have hlt' : (k : Int) < l.length := by omega
          have hg := H8.out l[k] (List.getElem_mem hlt)
          obtain ⟨b1, o1, rfl, g1⟩ := HP.out k hlt
          have d0 : w.cell? ⟨b1, o1 + k * 2, none⟩ = some (.int .u8 l[k].1) := g1 0 _ rfl
          have d1 : w.cell? ⟨b1, o1 + k * 2 + 1, none⟩ = some (.int .u8 l[k].2) := g1 1 _ rfl
          have hb1 : b1 < w.heap.size := World.block_lt_of_cell? _ _ d0
          have q0 := (hB.cell (p := ⟨b1, o1 + k * 2, none⟩) hb1).trans d0
          have q1 := (hB.cell (p := ⟨b1, o1 + k * 2 + 1, none⟩) hb1).trans d1
          generalize l[k].1 = s at q0 hg
          generalize l[k].2 = gp at q1 hg
          obtain ⟨⟨hs0, hs1⟩, hg0, hg1⟩ := hg
          clear g1 d0 d1 hb1
          have eg : IntKind.i64.wrap gp = gp := IntWalk.i64_in _ (by omega)
          have eN : IntKind.i64.wrap (N + gp) = N + gp := IntWalk.i64_in _ (by omega)
          obtain ⟨m, hm10, hme⟩ : ∃ m : Nat, m < 10 ∧ (m : Int) = s % 10 := ⟨(s % 10).toNat, by omega, by omega⟩
          have htm : s.tmod 10 = (m : Int) := (Int.tmod_eq_emod_of_nonneg hs0).trans hme.symm
          have hwe : IntKind.i64.wrap (m : Int) = m := IntWalk.i64_in _ (by omega)
          have htr : N + gp ≤ 1000000 ∧ 0 ≤ N + gp ∧ N ≤ N + gp := by omega
          have HNt := Lib.hid (show 0 ≤ N + gp ∧ N + gp ≤ 255 * ((k + 1 : Nat) : Int) by omega)
          clear hme hs0 hs1 hg0 hg1 hN
          generalize hte : N + gp = t at *
          have ham := may_small m hm10
          have hst := apart_step HA.out htr.2.2 (by omega) ham
          have HTn := Lib.hid (fun hE => Took.no HA.out htr.2.2 (by omega) ham HT.out hE)
          have HTy := Lib.hid (fun hE => Took.yes HA.out htr.2.1 htr.2.2 (by omega) ham HT.out hE)
          have hown : Hid (∀ j : Nat, j < 10 → ownN B R S own (m : Int) t (j : Int) = if tkE14 B R S (m : Int) t = 7 then own (j : Int) else if j = m then (tkT B R (own (m : Int)).1 (own (m : Int)).2 t 1, tkA B R (own (m : Int)).1 (own (m : Int)).2 t 1) else own (j : Int)) := Lib.hid (fun j _ => by
            unfold ownN
            by_cases e : j = m
            · subst e; rw [if_pos rfl, if_pos rfl]
            · rw [if_neg e, if_neg (by omega : ¬ (j : Int) = (m : Int))])
          have cC := Lib.hid (fun W h => psclean_any B R (.slice ps S.length cs) S t W h (by omega))
          have cT := Lib.hid (fun W h => pstake_sep B R (.slice ps S.length cs) S (m : Int) t W h (by omega))
          have cB := Lib.hid (fun W => btake_any B R (own (m : Int)).1 (own (m : Int)).2 t 1 W)
          obtain ⟨hA2, hfull, hspent⟩ := hst
          have HA2 := Lib.hid hA2
          have hS28 := (chk_iff.1 hA2.c).2.1
          generalize ownN B R S own (m : Int) t = own2 at *
          generalize tkS14 B R S (m : Int) t = S2 at *
          generalize tkE14 B R S (m : Int) t = E at *
          generalize tkT B R (own (m : Int)).1 (own (m : Int)).2 t 1 = T2 at hown cB
          generalize tkA B R (own (m : Int)).1 (own (m : Int)).2 t 1 = A2 at hown cB
          generalize tkB B R (own (m : Int)).1 (own (m : Int)).2 t 1 = is at hspent cB
          have hdis : E = 7 ∨ (E = 0 ∧ is = true) ∨ (E ≠ 0 ∧ E ≠ 7 ∧ is = false) := by
            by_cases e7 : E = 7
            · exact .inl e7
            · by_cases e0 : E = 0
              · exact .inr (.inl ⟨e0, (hspent e7).1 e0⟩)
              · refine .inr (.inr ⟨e0, e7, ?_⟩)
                cases is
                · rfl
                · exact absurd ((hspent e7).2 rfl) e0
          clear hspent hA2 ham
          simp only [twV] at cC cT cB
          have hm10' : (m : Int) < 10 := by omega
          obtain ⟨x0, x1⟩ := HX.out
          go_wp2_with fail
          refine (cC.out _ HI.out).mono ?_; rintro e w1 ⟨v3, rfl, I3, hb1⟩
          obtain ⟨p3, c3, e3⟩ : ∃ p c, v3 = .slice p (clnS B R S t).length c := by obtain ⟨p, c, h, _⟩ := I3; exact ⟨p, c, h⟩
          subst e3
          generalize (clnS B R S t).length = cn at *
          have hX1 := HX.out.call hb1
          have B1 := hB.trans (hb1.mono hB.size)
          clear x0 x1 I3
          obtain ⟨x0, x1⟩ := id hX1
          go_wp2_with fail
          refine (cT.out _ (HI.out.call hb1)).mono ?_; rintro e w2 ⟨v2, rfl, I2, hN2, hb2⟩
          have F2 : Below wr.heap.size wr w2 := hb1.trans (hb2.mono hb1.size)
          have HSep2 := Lib.hid ((HSep.out.call hb1.size).take (HK.out.call hb1) hb2.size hN2)
          have HX2 := Lib.hid (HX.out.call F2)
          have HY2 := Lib.hid (HY.out.call F2)
          have HK2 := Lib.hid (HK.out.call F2)
          have B2 := hB.trans (F2.mono hB.size)
          have HI2 := Lib.hid I2
          obtain ⟨p2, c2, e2⟩ : ∃ p c, v2 = .slice p S2.length c := by obtain ⟨p, c, h, _⟩ := I2; exact ⟨p, c, h⟩
          subst e2
          have hz2 := F2.size
          clear x0 x1 hX1 B1 hb1 hb2 hN2 I2 HSep HX HY HK HI hX hY cC cT hB F2
          go_upto_region 19 with fail
          have hout : Hid (∀ W, Below w2.heap.size w2 W → (W.cell? ⟨w.heap.size, 0, none⟩ = some (.int .i64 B) ∧ W.cell? ⟨w.heap.size, 1, none⟩ = some (.int .i64 R)) ∧ (W.cell? ⟨w.heap.size + 1, m * 2, none⟩ = some (.int .i64 (own (m : Int)).1) ∧ W.cell? ⟨w.heap.size + 1, m * 2 + 1, none⟩ = some (.int .i64 (own (m : Int)).2))) := Lib.hid (fun W h => ⟨HX2.out.call h, (HY2.out.call h m hm10).1⟩)
          have hT0 : Below w2.heap.size w2 w2.drew := Below.drew (Below.refl _ _)
          generalize (own (m : Int)).1 = T1 at cB hout
          generalize (own (m : Int)).2 = A1 at cB hout
          go_cut [18, 19] (fun py pi wx => ∃ yb : Nat, py = .pointer (some ⟨yb, 0, none⟩) ∧ pi = .bool is ∧ Bx2 wx yb T2 A2 ∧ w2.heap.size ≤ yb ∧ Below w2.heap.size w2 wx)
          case first =>
            refine wp_region_held_drew (S := fun W => (W.cell? ⟨w.heap.size, 0, none⟩ = some (.int .i64 B) ∧ W.cell? ⟨w.heap.size, 1, none⟩ = some (.int .i64 R)) ∧ (W.cell? ⟨w.heap.size + 1, m * 2, none⟩ = some (.int .i64 T1) ∧ W.cell? ⟨w.heap.size + 1, m * 2 + 1, none⟩ = some (.int .i64 A1))) (by kernel_rfl) (hout.out _ (by assumption)) (fun hHeld => ?_)
            (refine wpAnyH_take (i := 0) (v := ?_) rfl (by kernel_rfl) (by kernel_rfl) (by kernel_rfl) (fun _ _ _ h => h) (Or.inl ⟨by rfl, ?_⟩) (by assumption) ?_; rotate_left 1; (focus (intro wz hz; (try dsimp only at hz); (try simp only [List.getElem_toArray, List.getElem_cons_succ, List.getElem_cons_zero]); go_simp; (try (rw [if_neg (by (try simp only [ByteArray.size_append]); omega)])); try (with_reducible rfl); done)))
            try simp only [Act.put, List.getElem_toArray, List.getElem_cons_succ, List.getElem_cons_zero, List.setIfInBounds_toArray, List.set_cons_zero, List.set_cons_succ]
            (refine wpAnyH_take (i := 1) (v := ?_) rfl (by kernel_rfl) (by kernel_rfl) (by kernel_rfl) (fun _ _ _ h => h) (Or.inl ⟨by rfl, ?_⟩) (by assumption) ?_; rotate_left 1; (focus (intro wz hz; (try dsimp only at hz); (try simp only [List.getElem_toArray, List.getElem_cons_succ, List.getElem_cons_zero]); go_simp; (try (rw [if_neg (by (try simp only [ByteArray.size_append]); omega)])); try (with_reducible rfl); done)))
            try simp only [Act.put, List.getElem_toArray, List.getElem_cons_succ, List.getElem_cons_zero, List.setIfInBounds_toArray, List.set_cons_zero, List.set_cons_succ]
            (refine wpAnyH_take (i := 4) (v := ?_) rfl (by kernel_rfl) (by kernel_rfl) (by kernel_rfl) (fun _ _ _ h => h) (Or.inl ⟨by rfl, ?_⟩) (by assumption) ?_; rotate_left 1; (focus (intro wz hz; (try dsimp only at hz); (try simp only [List.getElem_toArray, List.getElem_cons_succ, List.getElem_cons_zero]); go_simp; (try (rw [if_neg (by (try simp only [ByteArray.size_append]); omega)])); try (with_reducible rfl); done)))
            try simp only [Act.put, List.getElem_toArray, List.getElem_cons_succ, List.getElem_cons_zero, List.setIfInBounds_toArray, List.set_cons_zero, List.set_cons_succ]
            (refine wpAnyH_take (i := 2) (v := ?_) rfl (by kernel_rfl) (by kernel_rfl) (by kernel_rfl) (fun _ _ _ h => h) (Or.inl ⟨by rfl, ?_⟩) (by assumption) ?_; rotate_left 1; (focus (intro wz hz; (try dsimp only at hz); (try simp only [List.getElem_toArray, List.getElem_cons_succ, List.getElem_cons_zero]); go_simp; (try (rw [if_neg (by (try simp only [ByteArray.size_append]); omega)])); try (with_reducible rfl); done)))
            try simp only [Act.put, List.getElem_toArray, List.getElem_cons_succ, List.getElem_cons_zero, List.setIfInBounds_toArray, List.set_cons_zero, List.set_cons_succ]
            (refine wpAnyH_take (i := 3) (v := ?_) rfl (by kernel_rfl) (by kernel_rfl) (by kernel_rfl) (fun _ _ _ h => h) (Or.inl ⟨by rfl, ?_⟩) (by assumption) ?_; rotate_left 1; (focus (intro wz hz; (try dsimp only at hz); (try simp only [List.getElem_toArray, List.getElem_cons_succ, List.getElem_cons_zero]); go_simp; (try (rw [if_neg (by (try simp only [ByteArray.size_append]); omega)])); try (with_reducible rfl); done)))
            try simp only [Act.put, List.getElem_toArray, List.getElem_cons_succ, List.getElem_cons_zero, List.setIfInBounds_toArray, List.set_cons_zero, List.set_cons_succ]
            refine wpAnyH_ready (rs := [5, 9]) (by kernel_rfl) (by simp) ?_
            refine AllReadyH.cons rfl (fun K hK => ?_) (AllReadyH.cons rfl (fun K hK => ?_) AllReadyH.nil)
            · ((try simp only [List.getElem_toArray, List.getElem_cons_succ, List.getElem_cons_zero]); go_simp; go_at_call 25; refine (cB.out _).mono ?_; rintro e wn5 ⟨rfl, hbn5⟩; have hT5 : Below w2.heap.size w2 wn5 := (by (repeat (first | (with_reducible exact Below.refl _ _) | ((with_reducible refine below_alloc ?_ ?_ _); · (first | omega | (simp; done) | (simp; omega))) | ((with_reducible refine below_setCell ?_ ?_ _); · (first | omega | (simp; done) | (simp; omega))) | (with_reducible refine Below.drew ?_) | (with_reducible refine below_drewN ?_ _) | ((with_reducible refine below_call (by assumption) ?_ ?_); · (first | omega | (simp; done) | (simp; omega)))))); have z5 := hT5.size; (try (have RW := rw2_new hbn5; obtain ⟨⟨r0, r1⟩, fr0, fr1⟩ := id RW)); (try (go_wp2_with fail)); refine hK.out _ _ (hout.out _ (by assumption)) (fun hHeld => ?_); clear hK K)
              try simp only [Act.put, List.getElem_toArray, List.getElem_cons_succ, List.getElem_cons_zero, List.setIfInBounds_toArray, List.set_cons_zero, List.set_cons_succ]
              (refine wpAnyH_take (i := 6) (v := ?_) rfl (by kernel_rfl) (by kernel_rfl) (by kernel_rfl) (fun _ _ _ h => h) (Or.inl ⟨by rfl, ?_⟩) (by assumption) ?_; rotate_left 1; (focus (intro wz hz; (try dsimp only at hz); (try simp only [List.getElem_toArray, List.getElem_cons_succ, List.getElem_cons_zero]); go_simp; (try (rw [if_neg (by (try simp only [ByteArray.size_append]); omega)])); try (with_reducible rfl); done)))
              try simp only [Act.put, List.getElem_toArray, List.getElem_cons_succ, List.getElem_cons_zero, List.setIfInBounds_toArray, List.set_cons_zero, List.set_cons_succ]
              (refine wpAnyH_take (i := 7) (v := ?_) rfl (by kernel_rfl) (by kernel_rfl) (by kernel_rfl) (fun _ _ _ h => h) (Or.inl ⟨by rfl, ?_⟩) (by assumption) ?_; rotate_left 1; (focus (intro wz hz; (try dsimp only at hz); (try simp only [List.getElem_toArray, List.getElem_cons_succ, List.getElem_cons_zero]); go_simp; (try (rw [if_neg (by (try simp only [ByteArray.size_append]); omega)])); try (with_reducible rfl); done)))
              try simp only [Act.put, List.getElem_toArray, List.getElem_cons_succ, List.getElem_cons_zero, List.setIfInBounds_toArray, List.set_cons_zero, List.set_cons_succ]
              (refine wpAnyH_take (i := 8) (v := ?_) rfl (by kernel_rfl) (by kernel_rfl) (by kernel_rfl) (fun _ _ _ h => h) (Or.inl ⟨by rfl, ?_⟩) (by assumption) ?_; rotate_left 1; (focus (intro wz hz; (try dsimp only at hz); (try simp only [List.getElem_toArray, List.getElem_cons_succ, List.getElem_cons_zero]); go_simp; (try (rw [if_neg (by (try simp only [ByteArray.size_append]); omega)])); try (with_reducible rfl); done)))
              try simp only [Act.put, List.getElem_toArray, List.getElem_cons_succ, List.getElem_cons_zero, List.setIfInBounds_toArray, List.set_cons_zero, List.set_cons_succ]
              (refine wpAnyH_ready (rs := [9]) (by kernel_rfl) (by simp) ?_; refine AllReadyH.cons rfl (fun K hK => ?_) AllReadyH.nil; (try simp only [List.getElem_toArray, List.getElem_cons_succ, List.getElem_cons_zero]); skip; go_simp; refine hK.out _ _ (hout.out _ (by (repeat (first | (with_reducible exact Below.refl _ _) | ((with_reducible refine below_alloc ?_ ?_ _); · (first | omega | (simp; done) | (simp; omega))) | ((with_reducible refine below_setCell ?_ ?_ _); · (first | omega | (simp; done) | (simp; omega))) | (with_reducible refine Below.drew ?_) | (with_reducible refine below_drewN ?_ _) | ((with_reducible refine below_call (by assumption) ?_ ?_); · (first | omega | (simp; done) | (simp; omega))))))) (fun hHeld => ?_); clear hK K)
              try simp only [Act.put, List.getElem_toArray, List.getElem_cons_succ, List.getElem_cons_zero, List.setIfInBounds_toArray, List.set_cons_zero, List.set_cons_succ]
              (refine wpAnyH_ready (rs := [10]) (by kernel_rfl) (by simp) ?_; refine AllReadyH.cons rfl (fun K hK => ?_) AllReadyH.nil; (try simp only [List.getElem_toArray, List.getElem_cons_succ, List.getElem_cons_zero]); skip; go_simp; refine hK.out _ _ (hout.out _ (by (repeat (first | (with_reducible exact Below.refl _ _) | ((with_reducible refine below_alloc ?_ ?_ _); · (first | omega | (simp; done) | (simp; omega))) | ((with_reducible refine below_setCell ?_ ?_ _); · (first | omega | (simp; done) | (simp; omega))) | (with_reducible refine Below.drew ?_) | (with_reducible refine below_drewN ?_ _) | ((with_reducible refine below_call (by assumption) ?_ ?_); · (first | omega | (simp; done) | (simp; omega))))))) (fun hHeld => ?_); clear hK K)
              try simp only [Act.put, List.getElem_toArray, List.getElem_cons_succ, List.getElem_cons_zero, List.setIfInBounds_toArray, List.set_cons_zero, List.set_cons_succ]
              (refine wpAnyH_take (i := 11) (v := ?_) rfl (by kernel_rfl) (by kernel_rfl) (by kernel_rfl) (fun _ _ _ h => h) (Or.inl ⟨by rfl, ?_⟩) (by assumption) ?_; rotate_left 1; (focus (intro wz hz; (try dsimp only at hz); (try simp only [List.getElem_toArray, List.getElem_cons_succ, List.getElem_cons_zero]); go_simp; (try (rw [if_neg (by (try simp only [ByteArray.size_append]); omega)])); try (with_reducible rfl); done)))
              try simp only [Act.put, List.getElem_toArray, List.getElem_cons_succ, List.getElem_cons_zero, List.setIfInBounds_toArray, List.set_cons_zero, List.set_cons_succ]
              refine wpAnyH_done (by kernel_rfl) ?_ _
              go_wp2_with fail; go_meet; exact ⟨_, rfl, rfl, by first | (simp [Bx2, go_sem]; done) | (simp [Bx2, go_sem, *]; done), by first | exact z5 | exact Nat.le_refl _, by (repeat (first | (with_reducible exact Below.refl _ _) | ((with_reducible refine below_alloc ?_ ?_ _); · (first | omega | (simp; done) | (simp; omega))) | ((with_reducible refine below_setCell ?_ ?_ _); · (first | omega | (simp; done) | (simp; omega))) | (with_reducible refine Below.drew ?_) | (with_reducible refine below_drewN ?_ _) | ((with_reducible refine below_call (by assumption) ?_ ?_); · (first | omega | (simp; done) | (simp; omega)))))⟩
            · ((try simp only [List.getElem_toArray, List.getElem_cons_succ, List.getElem_cons_zero]); skip; go_simp; refine hK.out _ _ (hout.out _ (by (repeat (first | (with_reducible exact Below.refl _ _) | ((with_reducible refine below_alloc ?_ ?_ _); · (first | omega | (simp; done) | (simp; omega))) | ((with_reducible refine below_setCell ?_ ?_ _); · (first | omega | (simp; done) | (simp; omega))) | (with_reducible refine Below.drew ?_) | (with_reducible refine below_drewN ?_ _) | ((with_reducible refine below_call (by assumption) ?_ ?_); · (first | omega | (simp; done) | (simp; omega))))))) (fun hHeld => ?_); clear hK K)
              try simp only [Act.put, List.getElem_toArray, List.getElem_cons_succ, List.getElem_cons_zero, List.setIfInBounds_toArray, List.set_cons_zero, List.set_cons_succ]
              (refine wpAnyH_ready (rs := [5]) (by kernel_rfl) (by simp) ?_; refine AllReadyH.cons rfl (fun K hK => ?_) AllReadyH.nil; (try simp only [List.getElem_toArray, List.getElem_cons_succ, List.getElem_cons_zero]); go_simp; go_at_call 25; refine (cB.out _).mono ?_; rintro e wn5 ⟨rfl, hbn5⟩; have hT5 : Below w2.heap.size w2 wn5 := (by (repeat (first | (with_reducible exact Below.refl _ _) | ((with_reducible refine below_alloc ?_ ?_ _); · (first | omega | (simp; done) | (simp; omega))) | ((with_reducible refine below_setCell ?_ ?_ _); · (first | omega | (simp; done) | (simp; omega))) | (with_reducible refine Below.drew ?_) | (with_reducible refine below_drewN ?_ _) | ((with_reducible refine below_call (by assumption) ?_ ?_); · (first | omega | (simp; done) | (simp; omega)))))); have z5 := hT5.size; (try (have RW := rw2_new hbn5; obtain ⟨⟨r0, r1⟩, fr0, fr1⟩ := id RW)); (try (go_wp2_with fail)); refine hK.out _ _ (hout.out _ (by assumption)) (fun hHeld => ?_); clear hK K)
              try simp only [Act.put, List.getElem_toArray, List.getElem_cons_succ, List.getElem_cons_zero, List.setIfInBounds_toArray, List.set_cons_zero, List.set_cons_succ]
              (refine wpAnyH_take (i := 6) (v := ?_) rfl (by kernel_rfl) (by kernel_rfl) (by kernel_rfl) (fun _ _ _ h => h) (Or.inl ⟨by rfl, ?_⟩) (by assumption) ?_; rotate_left 1; (focus (intro wz hz; (try dsimp only at hz); (try simp only [List.getElem_toArray, List.getElem_cons_succ, List.getElem_cons_zero]); go_simp; (try (rw [if_neg (by (try simp only [ByteArray.size_append]); omega)])); try (with_reducible rfl); done)))
              try simp only [Act.put, List.getElem_toArray, List.getElem_cons_succ, List.getElem_cons_zero, List.setIfInBounds_toArray, List.set_cons_zero, List.set_cons_succ]
              (refine wpAnyH_take (i := 7) (v := ?_) rfl (by kernel_rfl) (by kernel_rfl) (by kernel_rfl) (fun _ _ _ h => h) (Or.inl ⟨by rfl, ?_⟩) (by assumption) ?_; rotate_left 1; (focus (intro wz hz; (try dsimp only at hz); (try simp only [List.getElem_toArray, List.getElem_cons_succ, List.getElem_cons_zero]); go_simp; (try (rw [if_neg (by (try simp only [ByteArray.size_append]); omega)])); try (with_reducible rfl); done)))
              try simp only [Act.put, List.getElem_toArray, List.getElem_cons_succ, List.getElem_cons_zero, List.setIfInBounds_toArray, List.set_cons_zero, List.set_cons_succ]
              (refine wpAnyH_take (i := 8) (v := ?_) rfl (by kernel_rfl) (by kernel_rfl) (by kernel_rfl) (fun _ _ _ h => h) (Or.inl ⟨by rfl, ?_⟩) (by assumption) ?_; rotate_left 1; (focus (intro wz hz; (try dsimp only at hz); (try simp only [List.getElem_toArray, List.getElem_cons_succ, List.getElem_cons_zero]); go_simp; (try (rw [if_neg (by (try simp only [ByteArray.size_append]); omega)])); try (with_reducible rfl); done)))
              try simp only [Act.put, List.getElem_toArray, List.getElem_cons_succ, List.getElem_cons_zero, List.setIfInBounds_toArray, List.set_cons_zero, List.set_cons_succ]
              (refine wpAnyH_ready (rs := [10]) (by kernel_rfl) (by simp) ?_; refine AllReadyH.cons rfl (fun K hK => ?_) AllReadyH.nil; (try simp only [List.getElem_toArray, List.getElem_cons_succ, List.getElem_cons_zero]); skip; go_simp; refine hK.out _ _ (hout.out _ (by (repeat (first | (with_reducible exact Below.refl _ _) | ((with_reducible refine below_alloc ?_ ?_ _); · (first | omega | (simp; done) | (simp; omega))) | ((with_reducible refine below_setCell ?_ ?_ _); · (first | omega | (simp; done) | (simp; omega))) | (with_reducible refine Below.drew ?_) | (with_reducible refine below_drewN ?_ _) | ((with_reducible refine below_call (by assumption) ?_ ?_); · (first | omega | (simp; done) | (simp; omega))))))) (fun hHeld => ?_); clear hK K)
              try simp only [Act.put, List.getElem_toArray, List.getElem_cons_succ, List.getElem_cons_zero, List.setIfInBounds_toArray, List.set_cons_zero, List.set_cons_succ]
              (refine wpAnyH_take (i := 11) (v := ?_) rfl (by kernel_rfl) (by kernel_rfl) (by kernel_rfl) (fun _ _ _ h => h) (Or.inl ⟨by rfl, ?_⟩) (by assumption) ?_; rotate_left 1; (focus (intro wz hz; (try dsimp only at hz); (try simp only [List.getElem_toArray, List.getElem_cons_succ, List.getElem_cons_zero]); go_simp; (try (rw [if_neg (by (try simp only [ByteArray.size_append]); omega)])); try (with_reducible rfl); done)))
              try simp only [Act.put, List.getElem_toArray, List.getElem_cons_succ, List.getElem_cons_zero, List.setIfInBounds_toArray, List.set_cons_zero, List.set_cons_succ]
              refine wpAnyH_done (by kernel_rfl) ?_ _
              go_wp2_with fail; go_meet; exact ⟨_, rfl, rfl, by first | (simp [Bx2, go_sem]; done) | (simp [Bx2, go_sem, *]; done), by first | exact z5 | exact Nat.le_refl _, by (repeat (first | (with_reducible exact Below.refl _ _) | ((with_reducible refine below_alloc ?_ ?_ _); · (first | omega | (simp; done) | (simp; omega))) | ((with_reducible refine below_setCell ?_ ?_ _); · (first | omega | (simp; done) | (simp; omega))) | (with_reducible refine Below.drew ?_) | (with_reducible refine below_drewN ?_ _) | ((with_reducible refine below_call (by assumption) ?_ ?_); · (first | omega | (simp; done) | (simp; omega)))))⟩
          case rest =>
          obtain ⟨yb, rfl, rfl, hYb, hyz, hC5⟩ := hcut
          have HX5 := HX2.out.call hC5
          have HY5 := Lib.hid (HY2.out.call hC5)
          have HK5 := Lib.hid (HK2.out.call hC5)
          have HI5 := Lib.hid (HI2.out.call hC5)
          have HS5 := Lib.hid (HSep2.out.call hC5.size)
          have B5 := B2.trans (hC5.mono B2.size)
          have hob : w.heap.size + 1 ≠ yb := by omega
          have hob' : yb ≠ w.heap.size + 1 := fun e => hob e.symm
          have htz : tb < wc.heap.size := HK5.out.lt
          have cK := Lib.hid (fun W h => pscheck_any B R (.slice p2 S2.length c2) S2 W h (by omega))
          rw [HA2.out.c] at cK
          simp only [twV] at cK
          clear HX2 HY2 HK2 HI2 HSep2 B2 hC5 hout hT0 cB hyz hz2 htb
          obtain ⟨f7, hf7⟩ : ∃ f, (E == 7) = f := ⟨_, rfl⟩
          obtain ⟨f0, hf0⟩ : ∃ f, (E == 0) = f := ⟨_, rfl⟩
          have hdB : Hid ((f7 = true ∧ E = 7) ∨ (f7 = false ∧ f0 = true ∧ is = true ∧ E = 0) ∨ (f7 = false ∧ f0 = false ∧ is = false ∧ E ≠ 0 ∧ E ≠ 7)) := Lib.hid (by
            rcases hdis with h | ⟨h, h'⟩ | ⟨h, h', h''⟩
            · exact .inl ⟨by rw [← hf7, h]; rfl, h⟩
            · exact .inr (.inl ⟨by rw [← hf7, h]; rfl, by rw [← hf0, h]; rfl, h', h⟩)
            · exact .inr (.inr ⟨by rw [← hf7]; simp [h'], by rw [← hf0]; simp [h], h'', h, h'⟩))
          have hfull2 := Lib.hid hfull
          clear hdis hfull
          go_upto_region 21 with fail
          go_cut [108] (fun c108 wx => c108 = .bool false ∧ Below wc.heap.size wc wx)
          case first =>
            obtain ⟨x0, x1⟩ := id HX5
            rcases hdB.out with ⟨rfl, h7⟩ | ⟨rfl, rfl, rfl, -⟩ | ⟨rfl, rfl, rfl, -, -⟩
            · have hcn8 : ¬ ((cn : Int) < 8) := by have := hfull2.out h7; omega
              clear h7
              go_wp2_with fail
              refine (cK.out _ HI5.out).mono ?_; rintro e w6 ⟨rfl, hb6⟩
              go_wp2_with fail
              go_meet
              exact ⟨rfl, hb6⟩
            · go_wp2_with fail
              refine (cK.out _ HI5.out).mono ?_; rintro e w6 ⟨rfl, hb6⟩
              go_wp2_with fail
              go_meet
              exact ⟨rfl, hb6⟩
            · go_wp2_with fail
              refine (cK.out _ HI5.out).mono ?_; rintro e w6 ⟨rfl, hb6⟩
              go_wp2_with fail
              go_meet
              exact ⟨rfl, hb6⟩
          case rest =>
          obtain ⟨rfl, hC6⟩ := hcut
          have HX6 := Lib.hid (HX5.call hC6)
          have HY6 := Lib.hid (HY5.out.call hC6)
          have HK6 := Lib.hid (HK5.out.call hC6)
          have HI6 := Lib.hid (HI5.out.call hC6)
          have HS6 := Lib.hid (HS5.out.call hC6.size)
          have HB6 := Lib.hid (B5.trans (hC6.mono B5.size))
          have hYb6 := hYb.call hC6
          have htz6 : tb < wc.heap.size := HK6.out.lt
          clear HX5 HY5 HK5 HI5 HS5 B5 hYb hC6 htz cK hfull2
          go_upto_if 110 with fail
          go_cut [] (fun wx => (Bx2 wx w.heap.size B R ∧ AR wx (w.heap.size + 1) (fun j => own2 (j : Int))) ∧ TK wx tb (tb + 1) vs g ∧ IsR 3 enC wx (.slice p2 S2.length c2) S2 ∧ Sep wx tb vs (.slice p2 S2.length c2) ∧ Below w.heap.size w wx)
          case first =>
            rcases hdB.out with ⟨rfl, h7⟩ | ⟨rfl, hr⟩ | ⟨rfl, hr⟩
            · have hY7 := HY6.out.eq (g := fun j => own2 (j : Int)) (fun j hj => by rw [hown.out j hj, if_pos h7])
              have HF := Lib.hid (And.intro (And.intro HX6.out hY7) (And.intro HK6.out (And.intro HI6.out (And.intro HS6.out HB6.out))))
              clear h7 hY7
              go_wp2_with fail
              go_meet
              exact HF.out
            all_goals
              have h7 : E ≠ 7 := by first | (obtain ⟨_, _, h⟩ := hr; rw [h]; decide) | exact hr.2.2.2
              have hY7 := (HY6.out.set hm10 T2 A2).eq (g := fun j => own2 (j : Int)) (fun j hj => by rw [hown.out j hj, if_neg h7])
              obtain ⟨⟨y0, y1⟩, fy0, fy1⟩ := HY6.out m hm10
              obtain ⟨r0, r1⟩ := id hYb6
              have HY7 := Lib.hid hY7
              clear h7 hY7 hr hYb6
              go_wp2_with fail
              go_meet
              refine ⟨⟨?_, HY7.out⟩, ?_, ?_, ?_, ?_⟩
              · have := HX6.out
                simpa [Bx2, go_sem] using this
              · exact (HK6.out.other (p := ⟨w.heap.size + 1, m * 2, none⟩) (by show w.heap.size + 1 ≠ tb; omega) (by show w.heap.size + 1 < tb + 1; omega) _).other (p := ⟨w.heap.size + 1, m * 2 + 1, none⟩) (by show w.heap.size + 1 ≠ tb; omega) (by show w.heap.size + 1 < tb + 1; omega) _
              · have hq : blkV (.slice p2 S2.length c2) ≠ some (w.heap.size + 1) := fun e => by have := (HS6.out _ e).1.1; omega
                exact isR_set (p := ⟨w.heap.size + 1, m * 2 + 1, none⟩) (isR_set (p := ⟨w.heap.size + 1, m * 2, none⟩) HI6.out hq _) hq _
              · exact HS6.out.call (by simp)
              · exact (HB6.out.setCell (p := ⟨w.heap.size + 1, m * 2, none⟩) (Nat.le_succ _) _).setCell (p := ⟨w.heap.size + 1, m * 2 + 1, none⟩) (Nat.le_succ _) _
          case rest =>
          obtain ⟨⟨HX7, HY7⟩, HK7, HI7, HS7, HB7⟩ := hcut
          have hX7 := Lib.hid HX7
          have hY7 := Lib.hid HY7
          have hK7 := Lib.hid HK7
          have hI7 := Lib.hid HI7
          have hS7 := Lib.hid HS7
          have hB7 := Lib.hid HB7
          have htz7 : tb + 1 ≤ wc.heap.size := HK7.lt
          have hw7 := HB7.size
          clear HX7 HY7 HK7 HI7 HS7 HB7 HX6 HY6 HK6 HI6 HS6 HB6 hYb6 htz6 hown hdB hob hob'
          have hgl : (g m).length ≤ k := (HT.out m hm10).2.2
          go_upto_if 115 with fail
          go_cut [] (fun wx => ∃ vs' g', Hid (Took B R own2 g' (k + 1)) ∧ (Bx2 wx w.heap.size B R ∧ AR wx (w.heap.size + 1) (fun j => own2 (j : Int))) ∧ TK wx tb (tb + 1) vs' g' ∧ IsR 3 enC wx (.slice p2 S2.length c2) S2 ∧ Sep wx tb vs' (.slice p2 S2.length c2) ∧ Below w.heap.size w wx)
          case first =>
            cases f0 with
            | false =>
              have hE : E ≠ 0 := by simpa using hf0
              have HTk := Lib.hid (HTn.out hE)
              clear hE
              go_wp2_with fail
              go_meet
              exact ⟨vs, g, HTk, ⟨hX7.out, hY7.out⟩, hK7.out, hI7.out, hS7.out, hB7.out⟩
            | true =>
              have hE : E = 0 := by simpa using hf0
              obtain ⟨gm, hgm⟩ : ∃ x, g m ++ [t] = x := ⟨_, rfl⟩
              have HTk : Hid (Took B R own2 (fun k => if k = m then gm else g k) (k + 1)) := Lib.hid (by
                have h := HTy.out hE
                simp only [hgm] at h
                exact h)
              have HMo : Hid (∀ q (hq : q < gm.length), ((gm.length : Int) - q) ≤ mostN B R (t - gm[q]) ∧ 0 ≤ gm[q] ∧ gm[q] ≤ t) := Lib.hid (fun q hq => by
                have h := Took.most HA2.out (by omega) hm10 HTk.out (q := q) (by simpa using hq)
                simp only [if_true] at h
                exact h)
              have hlen9 : gm.length ≤ 61 := by rw [← hgm, List.length_append, List.length_singleton]; omega
              obtain ⟨n8, hlg⟩ : ∃ n, gm.length = n := ⟨_, rfl⟩
              obtain ⟨k1, kf, ko⟩ := hK7.out.1 m hm10
              obtain ⟨pm, cm, em⟩ := ko.form
              have hem := Lib.hid em
              rw [em] at k1 ko
              have hko := Lib.hid ko
              clear ko em hE
              go_upto_region 27 with (at_builtin; refine app_row lays_int inC_len inC_one rfl _ _ rfl (tb + 1) (g m) [t] (.slice pm (g m).length cm) _ rfl (hko.out.alloc _) rfl (isR_one wc t _ 1 rfl rfl) (by first | (simp; done) | (simp; omega)) (by first | (simp; done) | (simp; omega)) ?_; intro v8 w8 ho8 hb8 hg8 hn8; rw [hgm] at ho8; obtain ⟨p8, c8, e8⟩ := ho8.form; rw [hlg] at e8; subst e8; have hbA : Below (tb + 1) wc w8 := (below_alloc htz7 (Below.refl _ _) _).trans hb8; have z0 := (hbA.cell (p := ⟨tb, m, none⟩) (by show tb < tb + 1; omega)).trans k1; have zf := (hbA.frozen (p := ⟨tb, m, none⟩) (by show tb < tb + 1; omega)).trans kf)
              have hKa := hK7.out.call (below_alloc (Nat.le_refl _) (Below.refl wc.heap.size wc) (.cells #[.int .i64 t] 3))
              have hSa := hS7.out.call (show wc.heap.size ≤ (wc.alloc (.cells #[.int .i64 t] 3)).heap.size by simp)
              have hIa := hI7.out.call (below_alloc (Nat.le_refl _) (Below.refl wc.heap.size wc) (.cells #[.int .i64 t] 3))
              rw [← hem.out] at hg8 hn8
              have hT9 := hKa.app hm10 (Nat.lt_succ_self tb) hg8 ho8 hn8
              have hS9 := hSa.app hm10 hg8.size hn8
              have hz9 := hbA.size
              have hI9 : IsR 3 enC w8 (.slice p2 S2.length c2) S2 := isR_grown hIa hg8 (by
                cases hq : blkV (.slice p2 S2.length c2) with
                | none => exact .inl rfl
                | some b => exact .inr (fun e => (hSa b hq).2 m hm10 e.symm))
              have hq9 : blkV (.slice p2 S2.length c2) ≠ some tb := fun e => by have := (hS7.out _ e).1.1; omega
              refine gen_world (F := fun V => (Bx2 V w.heap.size B R ∧ AR V (w.heap.size + 1) (fun j => own2 (j : Int))) ∧ TK V tb (tb + 1) (fun k => if k = m then .slice p8 n8 c8 else vs k) (fun k => if k = m then gm else g k) ∧ IsR 3 enC V (.slice p2 S2.length c2) S2 ∧ Sep V tb (fun k => if k = m then .slice p8 n8 c8 else vs k) (.slice p2 S2.length c2) ∧ Below w.heap.size w V) ⟨⟨?_, ?_⟩, hT9, isR_set (p := ⟨tb, m, none⟩) hI9 hq9 _, hS9.call (by simp), ?_⟩ (fun W9 hF9 => ?_)
              · have h := hX7.out
                have e1 := (hbA.cell (p := ⟨w.heap.size, 0, none⟩) (by show w.heap.size < tb + 1; omega)).trans h.1
                have e2 := (hbA.cell (p := ⟨w.heap.size, 1, none⟩) (by show w.heap.size < tb + 1; omega)).trans h.2
                exact ⟨by rw [World.cell?_setCell_other _ _ _ _ (by first | (simp; done) | (simp; omega))]; exact e1, by rw [World.cell?_setCell_other _ _ _ _ (by first | (simp; done) | (simp; omega))]; exact e2⟩
              · exact (hY7.out.far hbA (by omega)).other (p := ⟨tb, m, none⟩) (by show tb ≠ w.heap.size + 1; omega) _
              · exact (hB7.out.trans (hbA.mono (by omega))).setCell (p := ⟨tb, m, none⟩) (by show w.heap.size ≤ tb; omega) _
              obtain ⟨⟨X9, Y9⟩, T9, I9, S9, B9⟩ := hF9
              have HX9 := Lib.hid X9
              have HY9 := Lib.hid Y9
              have HT9 := Lib.hid T9
              have HI9 := Lib.hid I9
              have HS9 := Lib.hid S9
              have HB9 := Lib.hid B9
              clear hKa hSa hIa hT9 hS9 hI9 hq9 X9 Y9 T9 I9 S9 B9 hX7 hY7 hK7 hI7 hS7 hB7 hbA z0 zf k1 kf hko ho8 hb8 hg8 hn8 hem htz7 hw7 hz9
              clear hgm
              have cMo := Lib.hid (fun (n : Int) W => bmost_any B R n W)
              simp only [twV] at cMo
              go_wp2
              go_loopw [21] (fun i wv => ∃ q : Nat, i = .int .i64 q ∧ q ≤ gm.length ∧ Fr W9 wv) (fun i _ => gm.length - (intOf i).toNat)
              case atStart => exact ⟨0, rfl, Nat.zero_le _, Fr.refl _⟩
              case round =>
                obtain ⟨q, rfl, hq, hG⟩ := hrel
                have T10 := HT9.out.call hG
                obtain ⟨z0, zf, zo⟩ := T10.1 m hm10
                simp only [if_true] at z0 zo
                have zr := zo.reads inC_len
                clear zo zf
                by_cases hql : q < gm.length
                · have hql' : (q : Int) < gm.length := by omega
                  obtain ⟨pp, cc, ee, -, hcell⟩ := zr
                  obtain ⟨b8, o8, hp8, hc8⟩ := hcell q hql
                  have e0 := hc8 0 _ rfl
                  simp only [Nat.mul_one, Nat.add_zero] at e0
                  have hpp : p8 = pp := by injection ee
                  subst hpp
                  subst hp8
                  obtain ⟨hm1, hm2, hm3⟩ := HMo.out q hql
                  have hq61 : q ≤ 61 ∧ n8 ≤ 61 := by omega
                  have hql2 : (q : Int) < n8 := by omega
                  rw [hlg] at hm1
                  generalize gm[q] = x at e0 hm1 hm2 hm3
                  have cM := Lib.hid (cMo.out (t - x))
                  have ew1 : IntKind.i64.wrap ((n8 : Int) - q) = n8 - q := IntWalk.i64_in _ (by omega)
                  have ew2 : IntKind.i64.wrap (t - x) = t - x := IntWalk.i64_in _ (by omega)
                  have hno : ¬ (mostN B R (t - x) < (n8 : Int) - q) := by omega
                  generalize mostN B R (t - x) = y at cM hno
                  have hout : Hid (∀ V, Fr wr V → (V.cell? ⟨w.heap.size, 0, none⟩ = some (.int .i64 B) ∧ V.cell? ⟨w.heap.size, 1, none⟩ = some (.int .i64 R)) ∧ V.cell? ⟨tb, m, none⟩ = some (.slice (some ⟨b8, o8, none⟩) n8 c8) ∧ V.cell? ⟨b8, o8 + q, none⟩ = some (.int .i64 x)) := Lib.hid (fun V h => by
                    have h1 : Below wr.heap.size wr V := h
                    have hz0 : tb < wr.heap.size := World.block_lt_of_cell? _ _ z0
                    have he0 : b8 < wr.heap.size := World.block_lt_of_cell? _ _ e0
                    exact ⟨HX9.out.call (Fr.call hG h), (h1.cell (p := ⟨tb, m, none⟩) hz0).trans z0, (h1.cell (p := ⟨b8, o8 + q, none⟩) he0).trans e0⟩)
                  have hD0 := Fr.draw wr
                  clear hm1 hm2 hm3 hc8 hcell ee T10
                  go_wp2
                  refine wp_region_held_drew (S := fun V => (V.cell? ⟨w.heap.size, 0, none⟩ = some (.int .i64 B) ∧ V.cell? ⟨w.heap.size, 1, none⟩ = some (.int .i64 R)) ∧ V.cell? ⟨tb, m, none⟩ = some (.slice (some ⟨b8, o8, none⟩) n8 c8) ∧ V.cell? ⟨b8, o8 + q, none⟩ = some (.int .i64 x)) (by kernel_rfl) (hout.out _ (by assumption)) (fun hHeld => ?_)
                  (refine wpAnyH_take (i := 0) (v := ?_) rfl (by kernel_rfl) (by kernel_rfl) (by kernel_rfl) (fun _ _ _ h => h) (Or.inl ⟨by rfl, ?_⟩) (by assumption) ?_; rotate_left 1; (focus (intro wz hz; (try dsimp only at hz); (try simp only [List.getElem_toArray, List.getElem_cons_succ, List.getElem_cons_zero]); go_simp; (try (rw [if_neg (by (try simp only [ByteArray.size_append]); omega)])); try (with_reducible rfl); done)))
                  try simp only [Act.put, List.getElem_toArray, List.getElem_cons_succ, List.getElem_cons_zero, List.setIfInBounds_toArray, List.set_cons_zero, List.set_cons_succ]
                  (refine wpAnyH_take (i := 4) (v := ?_) rfl (by kernel_rfl) (by kernel_rfl) (by kernel_rfl) (fun _ _ _ h => h) (Or.inl ⟨by rfl, ?_⟩) (by assumption) ?_; rotate_left 1; (focus (intro wz hz; (try dsimp only at hz); (try simp only [List.getElem_toArray, List.getElem_cons_succ, List.getElem_cons_zero]); go_simp; (try (rw [if_neg (by (try simp only [ByteArray.size_append]); omega)])); try (with_reducible rfl); done)))
                  try simp only [Act.put, List.getElem_toArray, List.getElem_cons_succ, List.getElem_cons_zero, List.setIfInBounds_toArray, List.set_cons_zero, List.set_cons_succ]
                  (refine wpAnyH_take (i := 6) (v := ?_) rfl (by kernel_rfl) (by kernel_rfl) (by kernel_rfl) (fun _ _ _ h => h) (Or.inl ⟨by rfl, ?_⟩) (by assumption) ?_; rotate_left 1; (focus (intro wz hz; (try dsimp only at hz); (try simp only [List.getElem_toArray, List.getElem_cons_succ, List.getElem_cons_zero]); go_simp; (try (rw [if_neg (by (try simp only [ByteArray.size_append]); omega)])); try (with_reducible rfl); done)))
                  try simp only [Act.put, List.getElem_toArray, List.getElem_cons_succ, List.getElem_cons_zero, List.setIfInBounds_toArray, List.set_cons_zero, List.set_cons_succ]
                  (refine wpAnyH_take (i := 7) (v := ?_) rfl (by kernel_rfl) (by kernel_rfl) (by kernel_rfl) (fun _ _ _ h => h) (Or.inl ⟨by rfl, ?_⟩) (by assumption) ?_; rotate_left 1; (focus (intro wz hz; (try dsimp only at hz); (try simp only [List.getElem_toArray, List.getElem_cons_succ, List.getElem_cons_zero]); go_simp; (try (rw [if_neg (by (try simp only [ByteArray.size_append]); omega)])); try (with_reducible rfl); done)))
                  try simp only [Act.put, List.getElem_toArray, List.getElem_cons_succ, List.getElem_cons_zero, List.setIfInBounds_toArray, List.set_cons_zero, List.set_cons_succ]
                  (refine wpAnyH_take (i := 8) (v := ?_) rfl (by kernel_rfl) (by kernel_rfl) (by kernel_rfl) (fun _ _ _ h => h) (Or.inl ⟨by rfl, ?_⟩) (by assumption) ?_; rotate_left 1; (focus (intro wz hz; (try dsimp only at hz); (try simp only [List.getElem_toArray, List.getElem_cons_succ, List.getElem_cons_zero]); go_simp; (try (rw [if_neg (by (try simp only [ByteArray.size_append]); omega)])); try (with_reducible rfl); done)))
                  try simp only [Act.put, List.getElem_toArray, List.getElem_cons_succ, List.getElem_cons_zero, List.setIfInBounds_toArray, List.set_cons_zero, List.set_cons_succ]
                  (refine wpAnyH_take (i := 11) (v := ?_) rfl (by kernel_rfl) (by kernel_rfl) (by kernel_rfl) (fun _ _ _ h => h) (Or.inl ⟨by rfl, ?_⟩) (by assumption) ?_; rotate_left 1; (focus (intro wz hz; (try dsimp only at hz); (try simp only [List.getElem_toArray, List.getElem_cons_succ, List.getElem_cons_zero]); go_simp; (try (rw [if_neg (by (try simp only [ByteArray.size_append]); omega)])); try (with_reducible rfl); done)))
                  try simp only [Act.put, List.getElem_toArray, List.getElem_cons_succ, List.getElem_cons_zero, List.setIfInBounds_toArray, List.set_cons_zero, List.set_cons_succ]
                  (refine wpAnyH_take (i := 1) (v := ?_) rfl (by kernel_rfl) (by kernel_rfl) (by kernel_rfl) (fun _ _ _ h => h) (Or.inl ⟨by rfl, ?_⟩) (by assumption) ?_; rotate_left 1; (focus (intro wz hz; (try dsimp only at hz); (try simp only [List.getElem_toArray, List.getElem_cons_succ, List.getElem_cons_zero]); go_simp; (try (rw [if_neg (by (try simp only [ByteArray.size_append]); omega)])); try (with_reducible rfl); done)))
                  try simp only [Act.put, List.getElem_toArray, List.getElem_cons_succ, List.getElem_cons_zero, List.setIfInBounds_toArray, List.set_cons_zero, List.set_cons_succ]
                  (refine wpAnyH_take (i := 9) (v := ?_) rfl (by kernel_rfl) (by kernel_rfl) (by kernel_rfl) (fun _ _ _ h => h) (Or.inl ⟨by rfl, ?_⟩) (by assumption) ?_; rotate_left 1; (focus (intro wz hz; (try dsimp only at hz); (try simp only [List.getElem_toArray, List.getElem_cons_succ, List.getElem_cons_zero]); go_simp; (try (rw [if_neg (by (try simp only [ByteArray.size_append]); omega)])); try (with_reducible rfl); done)))
                  try simp only [Act.put, List.getElem_toArray, List.getElem_cons_succ, List.getElem_cons_zero, List.setIfInBounds_toArray, List.set_cons_zero, List.set_cons_succ]
                  (refine wpAnyH_take (i := 2) (v := ?_) rfl (by kernel_rfl) (by kernel_rfl) (by kernel_rfl) (fun _ _ _ h => h) (Or.inl ⟨by rfl, ?_⟩) (by assumption) ?_; rotate_left 1; (focus (intro wz hz; (try dsimp only at hz); (try simp only [List.getElem_toArray, List.getElem_cons_succ, List.getElem_cons_zero]); go_simp; (try (rw [if_neg (by (try simp only [ByteArray.size_append]); omega)])); try (with_reducible rfl); done)))
                  try simp only [Act.put, List.getElem_toArray, List.getElem_cons_succ, List.getElem_cons_zero, List.setIfInBounds_toArray, List.set_cons_zero, List.set_cons_succ]
                  (refine wpAnyH_take (i := 10) (v := ?_) rfl (by kernel_rfl) (by kernel_rfl) (by kernel_rfl) (fun _ _ _ h => h) (Or.inl ⟨by rfl, ?_⟩) (by assumption) ?_; rotate_left 1; (focus (intro wz hz; (try dsimp only at hz); (try simp only [List.getElem_toArray, List.getElem_cons_succ, List.getElem_cons_zero]); go_simp; (try (rw [if_neg (by (try simp only [ByteArray.size_append]); omega)])); try (with_reducible rfl); done)))
                  try simp only [Act.put, List.getElem_toArray, List.getElem_cons_succ, List.getElem_cons_zero, List.setIfInBounds_toArray, List.set_cons_zero, List.set_cons_succ]
                  (refine wpAnyH_take (i := 3) (v := ?_) rfl (by kernel_rfl) (by kernel_rfl) (by kernel_rfl) (fun _ _ _ h => h) (Or.inl ⟨by rfl, ?_⟩) (by assumption) ?_; rotate_left 1; (focus (intro wz hz; (try dsimp only at hz); (try simp only [List.getElem_toArray, List.getElem_cons_succ, List.getElem_cons_zero]); go_simp; (try (rw [if_neg (by (try simp only [ByteArray.size_append]); omega)])); try (with_reducible rfl); done)))
                  try simp only [Act.put, List.getElem_toArray, List.getElem_cons_succ, List.getElem_cons_zero, List.setIfInBounds_toArray, List.set_cons_zero, List.set_cons_succ]
                  (refine wpAnyH_take (i := 12) (v := ?_) rfl (by kernel_rfl) (by kernel_rfl) (by kernel_rfl) (fun _ _ _ h => h) (Or.inl ⟨by rfl, ?_⟩) (by assumption) ?_; rotate_left 1; (focus (intro wz hz; (try dsimp only at hz); (try simp only [List.getElem_toArray, List.getElem_cons_succ, List.getElem_cons_zero]); go_simp; (try (rw [if_neg (by (try simp only [ByteArray.size_append]); omega)])); try (with_reducible rfl); done)))
                  try simp only [Act.put, List.getElem_toArray, List.getElem_cons_succ, List.getElem_cons_zero, List.setIfInBounds_toArray, List.set_cons_zero, List.set_cons_succ]
                  (refine wpAnyH_take (i := 5) (v := ?_) rfl (by kernel_rfl) (by kernel_rfl) (by kernel_rfl) (fun _ _ _ h => h) (Or.inl ⟨by rfl, ?_⟩) (by assumption) ?_; rotate_left 1; (focus (intro wz hz; (try dsimp only at hz); (try simp only [List.getElem_toArray, List.getElem_cons_succ, List.getElem_cons_zero]); go_simp; (try (rw [if_neg (by (try simp only [ByteArray.size_append]); omega)])); try (with_reducible rfl); done)))
                  try simp only [Act.put, List.getElem_toArray, List.getElem_cons_succ, List.getElem_cons_zero, List.setIfInBounds_toArray, List.set_cons_zero, List.set_cons_succ]
                  (refine wpAnyH_take (i := 13) (v := ?_) rfl (by kernel_rfl) (by kernel_rfl) (by kernel_rfl) (fun _ _ _ h => h) (Or.inl ⟨by rfl, ?_⟩) (by assumption) ?_; rotate_left 1; (focus (intro wz hz; (try dsimp only at hz); (try simp only [List.getElem_toArray, List.getElem_cons_succ, List.getElem_cons_zero]); go_simp; (try (rw [if_neg (by (try simp only [ByteArray.size_append]); omega)])); try (with_reducible rfl); done)))
                  try simp only [Act.put, List.getElem_toArray, List.getElem_cons_succ, List.getElem_cons_zero, List.setIfInBounds_toArray, List.set_cons_zero, List.set_cons_succ]
                  (refine wpAnyH_take (i := 14) (v := ?_) rfl (by kernel_rfl) (by kernel_rfl) (by kernel_rfl) (fun _ _ _ h => h) (Or.inl ⟨by rfl, ?_⟩) (by assumption) ?_; rotate_left 1; (focus (intro wz hz; (try dsimp only at hz); (try simp only [List.getElem_toArray, List.getElem_cons_succ, List.getElem_cons_zero]); go_simp; (try (rw [if_neg (by (try simp only [ByteArray.size_append]); omega)])); try (with_reducible rfl); done)))
                  try simp only [Act.put, List.getElem_toArray, List.getElem_cons_succ, List.getElem_cons_zero, List.setIfInBounds_toArray, List.set_cons_zero, List.set_cons_succ]
                  (refine wpAnyH_ready (rs := [15]) (by kernel_rfl) (by simp) ?_; refine AllReadyH.cons rfl (fun K hK => ?_) AllReadyH.nil; (try simp only [List.getElem_toArray, List.getElem_cons_succ, List.getElem_cons_zero]); go_simp; go_at_call 26; refine (cM.out _).mono ?_; rintro e wn15 ⟨rfl, hbn15⟩; have hT15 := Fr.call hD0 hbn15; (try (go_wp2_with fail)); refine hK.out _ _ (hout.out _ (by assumption)) (fun hHeld => ?_); clear hK K)
                  try simp only [Act.put, List.getElem_toArray, List.getElem_cons_succ, List.getElem_cons_zero, List.setIfInBounds_toArray, List.set_cons_zero, List.set_cons_succ]
                  (refine wpAnyH_take (i := 16) (v := ?_) rfl (by kernel_rfl) (by kernel_rfl) (by kernel_rfl) (fun _ _ _ h => h) (Or.inl ⟨by rfl, ?_⟩) (by assumption) ?_; rotate_left 1; (focus (intro wz hz; (try dsimp only at hz); (try simp only [List.getElem_toArray, List.getElem_cons_succ, List.getElem_cons_zero]); go_simp; (try (rw [if_neg (by (try simp only [ByteArray.size_append]); omega)])); try (with_reducible rfl); done)))
                  try simp only [Act.put, List.getElem_toArray, List.getElem_cons_succ, List.getElem_cons_zero, List.setIfInBounds_toArray, List.set_cons_zero, List.set_cons_succ]
                  refine wpAnyH_done (by kernel_rfl) ?_ _
                  clear hHeld
                  go_wp2
                  go_roundw
                  case rel => exact ⟨q + 1, by go_num, by omega, Fr.call hG hT15⟩
                  case measure => simp [intOf]; omega
                · have hql' : (n8 : Int) ≤ q := by omega
                  clear zr
                  go_wp2
                  go_meet
                  exact ⟨_, _, HTk, ⟨HX9.out.call hG, HY9.out.call hG⟩, HT9.out.call hG, HI9.out.call hG, HS9.out.call (Below.size hG), Fr.fin HB9.out hG⟩
          case rest =>
          obtain ⟨vs2, g2, HTk, ⟨HX8, HY8⟩, HK8, HI8, HS8, HB8⟩ := hcut
          have hX8 := Lib.hid HX8
          have hY8 := Lib.hid HY8
          have hK8 := Lib.hid HK8
          have hI8 := Lib.hid HI8
          have hS8 := Lib.hid HS8
          have hB8 := Lib.hid HB8
          have hlv := Lib.hid (fun (j : Nat) (hj : j < 10) => HA2.out.level (may_small j hj))
          have cLs := Lib.hid (fun (j : Nat) W h => pslevel_any B R (.slice p2 S2.length c2) S2 (j : Int) t W h (by omega))
          have cLb := Lib.hid (fun (T A : Int) W => blevel_any B R T A t W)
          simp only [twV] at cLs cLb
          clear HX8 HY8 HK8 HI8 HS8 HB8 hX7 hY7 hK7 hI7 hS7 hB7 HTn HTy htz7 hw7 hgl
          go_wp2
          go_loopw [22] (fun i wv => ∃ j : Nat, i = .int .i64 j ∧ j ≤ 10 ∧ Fr wc wv) (fun i _ => 10 - (intOf i).toNat)
          case atStart => exact ⟨0, rfl, by omega, Fr.refl _⟩
          case round =>
            obtain ⟨j, rfl, hj, hG⟩ := hrel
            by_cases hjl : j < 10
            · have hjl' : (j : Int) < 10 := by omega
              have c1 := Lib.hid (fun V (h : Fr wc V) => cLs.out j V (hI8.out.call h))
              rw [hlv.out j hjl] at c1
              have hAr := Lib.hid (fun V (h : Fr wc V) => (hY8.out.call h j hjl).1)
              generalize own2 (j : Int) = oj at c1 hAr
              obtain ⟨Tj, Aj⟩ := oj
              have c2 := Lib.hid (cLb.out Tj Aj)
              simp only at c1 hAr
              generalize lvlN B R Tj Aj t = y at c1 c2
              have hout : Hid (∀ V, Fr wc V → (V.cell? ⟨w.heap.size, 0, none⟩ = some (.int .i64 B) ∧ V.cell? ⟨w.heap.size, 1, none⟩ = some (.int .i64 R)) ∧ (V.cell? ⟨w.heap.size + 1, j * 2, none⟩ = some (.int .i64 Tj) ∧ V.cell? ⟨w.heap.size + 1, j * 2 + 1, none⟩ = some (.int .i64 Aj))) := Lib.hid (fun V h => ⟨hX8.out.call h, hAr.out V h⟩)
              have hD0 := Fr.call hG (Fr.draw _)
              go_wp2
              refine wp_region_held_drew (S := fun V => (V.cell? ⟨w.heap.size, 0, none⟩ = some (.int .i64 B) ∧ V.cell? ⟨w.heap.size, 1, none⟩ = some (.int .i64 R)) ∧ (V.cell? ⟨w.heap.size + 1, j * 2, none⟩ = some (.int .i64 Tj) ∧ V.cell? ⟨w.heap.size + 1, j * 2 + 1, none⟩ = some (.int .i64 Aj))) (by kernel_rfl) (hout.out _ (by assumption)) (fun hHeld => ?_)
              (refine wpAnyH_take (i := 0) (v := ?_) rfl (by kernel_rfl) (by kernel_rfl) (by kernel_rfl) (fun _ _ _ h => h) (Or.inl ⟨by rfl, ?_⟩) (by assumption) ?_; rotate_left 1; (focus (intro wz hz; (try dsimp only at hz); (try simp only [List.getElem_toArray, List.getElem_cons_succ, List.getElem_cons_zero]); go_simp; (try (rw [if_neg (by (try simp only [ByteArray.size_append]); omega)])); try (with_reducible rfl); done)))
              try simp only [Act.put, List.getElem_toArray, List.getElem_cons_succ, List.getElem_cons_zero, List.setIfInBounds_toArray, List.set_cons_zero, List.set_cons_succ]
              (refine wpAnyH_take (i := 1) (v := ?_) rfl (by kernel_rfl) (by kernel_rfl) (by kernel_rfl) (fun _ _ _ h => h) (Or.inl ⟨by rfl, ?_⟩) (by assumption) ?_; rotate_left 1; (focus (intro wz hz; (try dsimp only at hz); (try simp only [List.getElem_toArray, List.getElem_cons_succ, List.getElem_cons_zero]); go_simp; (try (rw [if_neg (by (try simp only [ByteArray.size_append]); omega)])); try (with_reducible rfl); done)))
              try simp only [Act.put, List.getElem_toArray, List.getElem_cons_succ, List.getElem_cons_zero, List.setIfInBounds_toArray, List.set_cons_zero, List.set_cons_succ]
              (refine wpAnyH_take (i := 2) (v := ?_) rfl (by kernel_rfl) (by kernel_rfl) (by kernel_rfl) (fun _ _ _ h => h) (Or.inl ⟨by rfl, ?_⟩) (by assumption) ?_; rotate_left 1; (focus (intro wz hz; (try dsimp only at hz); (try simp only [List.getElem_toArray, List.getElem_cons_succ, List.getElem_cons_zero]); go_simp; (try (rw [if_neg (by (try simp only [ByteArray.size_append]); omega)])); try (with_reducible rfl); done)))
              try simp only [Act.put, List.getElem_toArray, List.getElem_cons_succ, List.getElem_cons_zero, List.setIfInBounds_toArray, List.set_cons_zero, List.set_cons_succ]
              (refine wpAnyH_take (i := 3) (v := ?_) rfl (by kernel_rfl) (by kernel_rfl) (by kernel_rfl) (fun _ _ _ h => h) (Or.inl ⟨by rfl, ?_⟩) (by assumption) ?_; rotate_left 1; (focus (intro wz hz; (try dsimp only at hz); (try simp only [List.getElem_toArray, List.getElem_cons_succ, List.getElem_cons_zero]); go_simp; (try (rw [if_neg (by (try simp only [ByteArray.size_append]); omega)])); try (with_reducible rfl); done)))
              try simp only [Act.put, List.getElem_toArray, List.getElem_cons_succ, List.getElem_cons_zero, List.setIfInBounds_toArray, List.set_cons_zero, List.set_cons_succ]
              (refine wpAnyH_take (i := 5) (v := ?_) rfl (by kernel_rfl) (by kernel_rfl) (by kernel_rfl) (fun _ _ _ h => h) (Or.inl ⟨by rfl, ?_⟩) (by assumption) ?_; rotate_left 1; (focus (intro wz hz; (try dsimp only at hz); (try simp only [List.getElem_toArray, List.getElem_cons_succ, List.getElem_cons_zero]); go_simp; (try (rw [if_neg (by (try simp only [ByteArray.size_append]); omega)])); try (with_reducible rfl); done)))
              try simp only [Act.put, List.getElem_toArray, List.getElem_cons_succ, List.getElem_cons_zero, List.setIfInBounds_toArray, List.set_cons_zero, List.set_cons_succ]
              (refine wpAnyH_take (i := 6) (v := ?_) rfl (by kernel_rfl) (by kernel_rfl) (by kernel_rfl) (fun _ _ _ h => h) (Or.inl ⟨by rfl, ?_⟩) (by assumption) ?_; rotate_left 1; (focus (intro wz hz; (try dsimp only at hz); (try simp only [List.getElem_toArray, List.getElem_cons_succ, List.getElem_cons_zero]); go_simp; (try (rw [if_neg (by (try simp only [ByteArray.size_append]); omega)])); try (with_reducible rfl); done)))
              try simp only [Act.put, List.getElem_toArray, List.getElem_cons_succ, List.getElem_cons_zero, List.setIfInBounds_toArray, List.set_cons_zero, List.set_cons_succ]
              (refine wpAnyH_take (i := 9) (v := ?_) rfl (by kernel_rfl) (by kernel_rfl) (by kernel_rfl) (fun _ _ _ h => h) (Or.inl ⟨by rfl, ?_⟩) (by assumption) ?_; rotate_left 1; (focus (intro wz hz; (try dsimp only at hz); (try simp only [List.getElem_toArray, List.getElem_cons_succ, List.getElem_cons_zero]); go_simp; (try (rw [if_neg (by (try simp only [ByteArray.size_append]); omega)])); try (with_reducible rfl); done)))
              try simp only [Act.put, List.getElem_toArray, List.getElem_cons_succ, List.getElem_cons_zero, List.setIfInBounds_toArray, List.set_cons_zero, List.set_cons_succ]
              (refine wpAnyH_take (i := 7) (v := ?_) rfl (by kernel_rfl) (by kernel_rfl) (by kernel_rfl) (fun _ _ _ h => h) (Or.inl ⟨by rfl, ?_⟩) (by assumption) ?_; rotate_left 1; (focus (intro wz hz; (try dsimp only at hz); (try simp only [List.getElem_toArray, List.getElem_cons_succ, List.getElem_cons_zero]); go_simp; (try (rw [if_neg (by (try simp only [ByteArray.size_append]); omega)])); try (with_reducible rfl); done)))
              try simp only [Act.put, List.getElem_toArray, List.getElem_cons_succ, List.getElem_cons_zero, List.setIfInBounds_toArray, List.set_cons_zero, List.set_cons_succ]
              (refine wpAnyH_take (i := 8) (v := ?_) rfl (by kernel_rfl) (by kernel_rfl) (by kernel_rfl) (fun _ _ _ h => h) (Or.inl ⟨by rfl, ?_⟩) (by assumption) ?_; rotate_left 1; (focus (intro wz hz; (try dsimp only at hz); (try simp only [List.getElem_toArray, List.getElem_cons_succ, List.getElem_cons_zero]); go_simp; (try (rw [if_neg (by (try simp only [ByteArray.size_append]); omega)])); try (with_reducible rfl); done)))
              try simp only [Act.put, List.getElem_toArray, List.getElem_cons_succ, List.getElem_cons_zero, List.setIfInBounds_toArray, List.set_cons_zero, List.set_cons_succ]
              (refine wpAnyH_ready (rs := [4]) (by kernel_rfl) (by simp) ?_; refine AllReadyH.cons rfl (fun K hK => ?_) AllReadyH.nil; (try simp only [List.getElem_toArray, List.getElem_cons_succ, List.getElem_cons_zero]); go_simp; go_at_call 12; refine (c1.out _ (by assumption)).mono ?_; rintro e wn4 ⟨rfl, hbn4⟩; have hTn4 := Fr.call (by assumption) hbn4; (try (go_wp2_with fail)); refine hK.out _ _ (hout.out _ (by assumption)) (fun hHeld => ?_); clear hK K)
              try simp only [Act.put, List.getElem_toArray, List.getElem_cons_succ, List.getElem_cons_zero, List.setIfInBounds_toArray, List.set_cons_zero, List.set_cons_succ]
              (refine wpAnyH_ready (rs := [10]) (by kernel_rfl) (by simp) ?_; refine AllReadyH.cons rfl (fun K hK => ?_) AllReadyH.nil; (try simp only [List.getElem_toArray, List.getElem_cons_succ, List.getElem_cons_zero]); go_simp; go_at_call 27; refine (c2.out _).mono ?_; rintro e wn10 ⟨rfl, hbn10⟩; have hTn10 := Fr.call (by assumption) hbn10; (try (go_wp2_with fail)); refine hK.out _ _ (hout.out _ (by assumption)) (fun hHeld => ?_); clear hK K)
              try simp only [Act.put, List.getElem_toArray, List.getElem_cons_succ, List.getElem_cons_zero, List.setIfInBounds_toArray, List.set_cons_zero, List.set_cons_succ]
              (refine wpAnyH_take (i := 11) (v := ?_) rfl (by kernel_rfl) (by kernel_rfl) (by kernel_rfl) (fun _ _ _ h => h) (Or.inl ⟨by rfl, ?_⟩) (by assumption) ?_; rotate_left 1; (focus (intro wz hz; (try dsimp only at hz); (try simp only [List.getElem_toArray, List.getElem_cons_succ, List.getElem_cons_zero]); go_simp; (try (rw [if_neg (by (try simp only [ByteArray.size_append]); omega)])); try (with_reducible rfl); done)))
              try simp only [Act.put, List.getElem_toArray, List.getElem_cons_succ, List.getElem_cons_zero, List.setIfInBounds_toArray, List.set_cons_zero, List.set_cons_succ]
              refine wpAnyH_done (by kernel_rfl) ?_ _
              clear hHeld
              go_wp2
              go_roundw
              case rel => exact ⟨j + 1, by go_num, by omega, hTn10⟩
              case measure => simp [intOf]; omega
            · have hjl' : (10 : Int) ≤ j := by omega
              go_wp2
              go_roundw
              case rel => exact ⟨k + 1, t, S2, own2, vs2, g2, by go_num, rfl, by omega, HNt.out, HA2, HTk, hI8.out.call hG, hS8.out.call (Below.size hG), ⟨hX8.out.call hG, hY8.out.call hG⟩, hK8.out.call hG, Fr.fin hB8.out hG⟩
              case measure => simp [intOf]; omega
        · obtain rfl : k = l.length := by omega
          have hlt' : ¬ ((l.length : Int) < l.length) := by omega
          go_wp2_with fail
          refine (aw.out _).mono ?_; rintro e w5 ⟨rfl, hb5⟩
          go_wp2
          go_ret
          exact ⟨rfl, hB.trans (hb5.mono hB.size)⟩

set_option maxRecDepth 100000 in
theorem sapart_lifted (os : Os) (started : os.Started) (H : Type) (enc : TypeId × Value → H) :
    ReturnsInHanded {} Try.checked os 4 .any (Rows.sourceApartSpec.pre6 enc Try.prog Try.f4 Rows.sourceApartRow.domain false) (Rows.sourceApartSpec.post enc Try.prog Try.f4 false true false false) := by
  refine returnsInHanded_of_change (C := Try.checked) own started (by kernel_rfl) Try.func4
    (ChangeSpec.witness6 (enc := enc) (C := Try.checked) false ⟨#[], #[.int .u8 0, .int .u8 0, .slice none 0 0], []⟩ 8 (by kernel_rfl) (by kernel_rfl) (by kernel_rfl) (by kernel_rfl)) ?_
  intro W base args ds gs before hval0 hW hcnd _
  have hval : ∀ (j : Nat) t v, Try.f4.params[j]? = some t → args[j]? = some v → Value.okWide Try.prog W .any base t v := hval0
  have hW' := hW
  obtain ⟨p, q, hA0, hV, rfl, hfz, hnd⟩ := hW
  have hA : DataW.TrodAll enc Try.prog W 0 (fun _ => true) true Try.f4.params.toList args.toList ds p := hA0
  rw [Try.params4] at hA hval
  obtain ⟨v0, vs0, d0, ds0, p0, q0, hargs, rfl, rfl, h0, r0⟩ := trodAll_cons hA
  obtain ⟨v1, vs1, d1, ds1, p1, q1, rfl, rfl, rfl, h1, r1⟩ := trodAll_cons r0
  obtain ⟨v2, vs2, d2, ds2, p2, q2, rfl, rfl, rfl, h2, r2⟩ := trodAll_cons r1
  obtain ⟨rfl, rfl, rfl⟩ := trodAll_nil r2
  obtain rfl : args = #[v0, v1, v2] := by cases args; simp_all
  obtain ⟨rfl, rfl⟩ := trodVars_none hV
  obtain ⟨n0, rfl, rfl, rfl, wa⟩ := open_int Try.underlying5 (hval 0 5 v0 rfl rfl) h0
  obtain ⟨n1, rfl, rfl, rfl, wb⟩ := open_int Try.underlying5 (hval 1 5 v1 rfl rfl) h1
  obtain ⟨l, hl, hls⟩ := open_asks (hval 2 50 v2 rfl rfl) h2
  refine (sapart_walk n0 n1 v2 l W (bounds_u8 wa) (bounds_u8 wb) hl hls).mono fun e W' ⟨he, hb⟩ => ?_
  subst he
  exact ⟨_, rfl, law_post rfl rfl Try.underlying4 (by kernel_rfl) rfl hW' hb⟩
theorem sapart_holds : Rows.SourceApartSaid :=
  OpenClaim.holds_of_wide 4 Try.f4 rfl rfl rfl rfl rfl rfl rfl ⟨rfl, rfl, rfl, rfl, rfl⟩ rfl rfl rfl rfl rfl (by kernel_rfl) Try.func4 (by kernel_rfl)
    (of_decide_eq_true (by kernel_rfl)) (by unfold Func.isWrapper; first | (rw [if_pos (by decide +kernel)]; kernel_rfl) | (rw [if_neg (by decide +kernel)]; exact ⟨rfl, rfl⟩))
    (fun os started H enc _ => sapart_lifted os started H enc)
end Go.Proofs.Ytpmabkegjdjodaa
