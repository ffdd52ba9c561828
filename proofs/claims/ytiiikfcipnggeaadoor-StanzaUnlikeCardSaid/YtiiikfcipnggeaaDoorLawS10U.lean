/- StanzaUnlike: two stanzas that may be have the same bytes just if they are the same, and neither's bytes begin with the other one's: the statement holds for every input. No condition. -/
import Derived.Test.YtiiikfcipnggeaaDoorS10W
import Derived.Test.YtiiikfcipnggeaaDoorLawMax
import Derived.Deep.RegionHeld3
import Derived.Deep.DeepCutAuto
namespace Go.Proofs.YtiiikfcipnggeaaDoor
open Go.RowKit Go.ChangeShapes Go.WideShapes Go.ChangeAt
set_option linter.unusedVariables false
set_option linter.unusedSimpArgs false

/-- what begins, begins with itself alone -/
theorem front_yes {x y : St} (hx : chkS x = 0) (hy : chkS y = 0) (h : sameS x y = true) : (putT x).size ≤ (putT y).size ∧ (putT y).extract 0 (putT x).size = putT x := by
  rw [sameS_iff] at h
  subst h
  exact ⟨Nat.le_refl _, by simp⟩
theorem front_no {x y : St} (hx : chkS x = 0) (hy : chkS y = 0) (h : sameS x y = false) (hl : (putT x).size ≤ (putT y).size) : (putT y).extract 0 (putT x).size ≠ putT x := by
  intro e
  have e2 : putB y = putB x ++ (putB y).drop (putT x).size := by
    rw [← put_data hx, ← put_data hy]
    have := congrArg (fun b => b.data.toList) e
    (try simp only at this)
    rw [ex_list2, List.drop_zero] at this
    conv => rhs; rw [← this]
    exact (List.take_append_drop _ _).symm
  have := sameS_iff.2 (put_front hx hy e2).1
  rw [h] at this
  cases this
set_option maxRecDepth 100000 in
set_option maxHeartbeats 8000000 in
theorem sunlike_walk (x y : St) (w : World) (hT : Tabs9 w) :
    Calls Tryd.prog 4 #[stzV x, stzV y] w fun e w' => e = .returned (.bool true) ∧ Below w.heap.size w w' := by
  have aw : Hid (∀ W, Below w.heap.size w W → Calls Tryd.prog 6 #[] W fun e w' => e = .returned (.bool true) ∧ Below W.heap.size W w') := Lib.hid (fun W hb => awake_any W (hT.call hb))
  have lx := Lib.hid (fun W => light_any x W)
  have ly := Lib.hid (fun W => light_any y W)
  have qp := Lib.hid (fun W hz (hb : Below w.heap.size w W) => sput_any x W (hT.call hb) hz)
  have qq := Lib.hid (fun W hz (hb : Below w.heap.size w W) => sput_any y W (hT.call hb) hz)
  have cp := Lib.hid (fun W hz (hb : Below w.heap.size w W) => scheck_any x W (hT.call hb) hz)
  have cq := Lib.hid (fun W hz (hb : Below w.heap.size w W) => scheck_any y W (hT.call hb) hz)
  have qs := Lib.hid (fun W => ssame_any x y W)
  have X0 : Hid (∀ (t t' : TypeId) c, Bx8 ((w.alloc (.cells #[.int .u8 (x.k.toNat : Int), .string x.u, .string x.r, .string x.m, .int .i64 x.s, .int .i64 x.p, .int .i64 x.c, .int .i64 x.n] t)).alloc (.cells c t')) w.heap.size x) := Lib.hid (fun t t' c => by simp [Bx8, go_sem])
  have Y0 : Hid (∀ (t t' : TypeId) c, Bx8 ((w.alloc (.cells c t)).alloc (.cells #[.int .u8 (y.k.toNat : Int), .string y.u, .string y.r, .string y.m, .int .i64 y.s, .int .i64 y.p, .int .i64 y.c, .int .i64 y.n] t')) (w.heap.size + 1) y) := Lib.hid (fun t t' c => by simp [Bx8, go_sem])
  have HX : Hid (chkS x = 0 → chkS y = 0 → sameS x y = true → (putT x).size ≤ (putT y).size ∧ (putT y).extract 0 (putT x).size = putT x) := Lib.hid front_yes
  have HN : Hid (chkS x = 0 → chkS y = 0 → sameS x y = false → (putT x).size ≤ (putT y).size → (putT y).extract 0 (putT x).size ≠ putT x) := Lib.hid front_no
  simp only [stzV] at *
  obtain ⟨lb, hlb⟩ : ∃ b, (decide (x.u.size ≤ 100) && (decide (x.r.size ≤ 100) && decide (x.m.size ≤ 100))) = b := ⟨_, rfl⟩
  obtain ⟨lc, hlc⟩ : ∃ b, (decide (y.u.size ≤ 100) && (decide (y.r.size ≤ 100) && decide (y.m.size ≤ 100))) = b := ⟨_, rfl⟩
  rw [hlb] at lx
  rw [hlc] at ly
  cases lb with
  | false =>
    clear hlb hlc
    go_enter Tryd.func4, Tryd.ntmps4
    go_wp2_with fail
    refine (lx.out _).mono ?_; rintro e w1 ⟨rfl, hb1⟩
    have B1 : Below w.heap.size w w1 := by (repeat (first | (with_reducible exact Below.refl _ _) | ((with_reducible refine below_alloc ?_ ?_ _); · (first | omega | (simp; done) | (simp; omega))) | ((with_reducible refine below_setCell ?_ ?_ _); · (first | omega | (simp; done) | (simp; omega))) | (with_reducible refine Below.drew ?_) | (with_reducible refine below_drewN ?_ _) | ((with_reducible refine below_call (by assumption) ?_ ?_); · (first | omega | (simp; done) | (simp; omega)))))
    have z1 := B1.size
    go_wp2_with fail
    refine (aw.out _ B1).mono ?_; rintro e w2 ⟨rfl, hb2⟩
    have B2 : Below w.heap.size w w2 := by (repeat (first | (with_reducible exact Below.refl _ _) | ((with_reducible refine below_alloc ?_ ?_ _); · (first | omega | (simp; done) | (simp; omega))) | ((with_reducible refine below_setCell ?_ ?_ _); · (first | omega | (simp; done) | (simp; omega))) | (with_reducible refine Below.drew ?_) | (with_reducible refine below_drewN ?_ _) | ((with_reducible refine below_call (by assumption) ?_ ?_); · (first | omega | (simp; done) | (simp; omega)))))
    have z2 := B2.size
    go_wp2
    go_ret
    exact ⟨rfl, B2⟩
  | true =>
  cases lc with
  | false =>
    clear hlb hlc
    go_enter Tryd.func4, Tryd.ntmps4
    go_wp2_with fail
    refine (lx.out _).mono ?_; rintro e w1 ⟨rfl, hb1⟩
    have B1 : Below w.heap.size w w1 := by (repeat (first | (with_reducible exact Below.refl _ _) | ((with_reducible refine below_alloc ?_ ?_ _); · (first | omega | (simp; done) | (simp; omega))) | ((with_reducible refine below_setCell ?_ ?_ _); · (first | omega | (simp; done) | (simp; omega))) | (with_reducible refine Below.drew ?_) | (with_reducible refine below_drewN ?_ _) | ((with_reducible refine below_call (by assumption) ?_ ?_); · (first | omega | (simp; done) | (simp; omega)))))
    have z1 := B1.size
    obtain ⟨y0, y1, y2, y3, y4, y5, y6, y7⟩ := (Y0.out _ _ _).call hb1
    go_wp2_with fail
    refine (ly.out _).mono ?_; rintro e w2 ⟨rfl, hb2⟩
    have B2 : Below w.heap.size w w2 := by (repeat (first | (with_reducible exact Below.refl _ _) | ((with_reducible refine below_alloc ?_ ?_ _); · (first | omega | (simp; done) | (simp; omega))) | ((with_reducible refine below_setCell ?_ ?_ _); · (first | omega | (simp; done) | (simp; omega))) | (with_reducible refine Below.drew ?_) | (with_reducible refine below_drewN ?_ _) | ((with_reducible refine below_call (by assumption) ?_ ?_); · (first | omega | (simp; done) | (simp; omega)))))
    have z2 := B2.size
    go_wp2_with fail
    refine (aw.out _ B2).mono ?_; rintro e w3 ⟨rfl, hb3⟩
    have B3 : Below w.heap.size w w3 := by (repeat (first | (with_reducible exact Below.refl _ _) | ((with_reducible refine below_alloc ?_ ?_ _); · (first | omega | (simp; done) | (simp; omega))) | ((with_reducible refine below_setCell ?_ ?_ _); · (first | omega | (simp; done) | (simp; omega))) | (with_reducible refine Below.drew ?_) | (with_reducible refine below_drewN ?_ _) | ((with_reducible refine below_call (by assumption) ?_ ?_); · (first | omega | (simp; done) | (simp; omega)))))
    have z3 := B3.size
    go_wp2
    go_ret
    exact ⟨rfl, B3⟩
  | true =>
  have zx : Sml x := by simp only [Bool.and_eq_true, decide_eq_true_eq] at hlb; exact ⟨by omega, by omega, by omega⟩
  have zy : Sml y := by simp only [Bool.and_eq_true, decide_eq_true_eq] at hlc; exact ⟨by omega, by omega, by omega⟩
  clear hlb hlc
  replace qp := Lib.hid (fun W hb => qp.out W zx hb)
  replace qq := Lib.hid (fun W hb => qq.out W zy hb)
  replace cp := Lib.hid (fun W hb => cp.out W zx hb)
  replace cq := Lib.hid (fun W hb => cq.out W zy hb)
  clear zx zy
  go_enter Tryd.func4, Tryd.ntmps4
  go_wp2_with fail
  refine (lx.out _).mono ?_; rintro e w1 ⟨rfl, hb1⟩
  have B1 : Below w.heap.size w w1 := by (repeat (first | (with_reducible exact Below.refl _ _) | ((with_reducible refine below_alloc ?_ ?_ _); · (first | omega | (simp; done) | (simp; omega))) | ((with_reducible refine below_setCell ?_ ?_ _); · (first | omega | (simp; done) | (simp; omega))) | (with_reducible refine Below.drew ?_) | (with_reducible refine below_drewN ?_ _) | ((with_reducible refine below_call (by assumption) ?_ ?_); · (first | omega | (simp; done) | (simp; omega)))))
  have z1 := B1.size
  have X1 := Lib.hid ((X0.out _ _ _).call hb1)
  have Y1 := Lib.hid ((Y0.out _ _ _).call hb1)
  obtain ⟨y0, y1, y2, y3, y4, y5, y6, y7⟩ := id Y1.out
  go_wp2_with fail
  refine (ly.out _).mono ?_; rintro e w2 ⟨rfl, hb2⟩
  have B2 : Below w.heap.size w w2 := by (repeat (first | (with_reducible exact Below.refl _ _) | ((with_reducible refine below_alloc ?_ ?_ _); · (first | omega | (simp; done) | (simp; omega))) | ((with_reducible refine below_setCell ?_ ?_ _); · (first | omega | (simp; done) | (simp; omega))) | (with_reducible refine Below.drew ?_) | (with_reducible refine below_drewN ?_ _) | ((with_reducible refine below_call (by assumption) ?_ ?_); · (first | omega | (simp; done) | (simp; omega)))))
  have z2 := B2.size
  have X2 := Lib.hid (X1.out.call hb2)
  have Y2 := Lib.hid (Y1.out.call hb2)
  clear y0 y1 y2 y3 y4 y5 y6 y7 X0 Y0 X1 Y1 lx ly hb1 hb2 B1 z1 z2
  go_upto_region 3 with fail
  refine gen_world (F := fun W => Bx8 W w.heap.size x ∧ Bx8 W (w.heap.size + 1) y ∧ Below w.heap.size w W) ⟨X2.out, Y2.out, B2⟩ (fun wt hF => ?_)
  obtain ⟨X, Y, hB⟩ := hF
  clear X2 Y2 B2
  go_cut [5, 6] (fun px py wx => ∃ bx byy : Nat, px = .pointer (some ⟨bx, 0, none⟩) ∧ py = .pointer (some ⟨byy, 0, none⟩) ∧ Bx8 wx bx x ∧ Bx8 wx byy y ∧ Below w.heap.size w wx)
  case first =>
    have hlx := X.lt
    have hly := Y.lt
    obtain ⟨x0, x1, x2, x3, x4, x5, x6, x7⟩ := id X
    obtain ⟨y0, y1, y2, y3, y4, y5, y6, y7⟩ := id Y
    go_region_held3 (fun w' => (w'.cell? ⟨w.heap.size, 0, none⟩ = some (.int .u8 (x.k.toNat : Int)) ∧ w'.cell? ⟨w.heap.size, 1, none⟩ = some (.string x.u) ∧ w'.cell? ⟨w.heap.size, 2, none⟩ = some (.string x.r) ∧ w'.cell? ⟨w.heap.size, 3, none⟩ = some (.string x.m) ∧ w'.cell? ⟨w.heap.size, 4, none⟩ = some (.int .i64 x.s) ∧ w'.cell? ⟨w.heap.size, 5, none⟩ = some (.int .i64 x.p) ∧ w'.cell? ⟨w.heap.size, 6, none⟩ = some (.int .i64 x.c) ∧ w'.cell? ⟨w.heap.size, 7, none⟩ = some (.int .i64 x.n)) ∧ (w'.cell? ⟨w.heap.size + 1, 0, none⟩ = some (.int .u8 (y.k.toNat : Int)) ∧ w'.cell? ⟨w.heap.size + 1, 1, none⟩ = some (.string y.u) ∧ w'.cell? ⟨w.heap.size + 1, 2, none⟩ = some (.string y.r) ∧ w'.cell? ⟨w.heap.size + 1, 3, none⟩ = some (.string y.m) ∧ w'.cell? ⟨w.heap.size + 1, 4, none⟩ = some (.int .i64 y.s) ∧ w'.cell? ⟨w.heap.size + 1, 5, none⟩ = some (.int .i64 y.p) ∧ w'.cell? ⟨w.heap.size + 1, 6, none⟩ = some (.int .i64 y.c) ∧ w'.cell? ⟨w.heap.size + 1, 7, none⟩ = some (.int .i64 y.n))) (go_keep) (fail)
    all_goals (go_wp2_with fail; go_meet; exact ⟨_, _, rfl, rfl, by simp [Bx8, go_sem], by simp [Bx8, go_sem], hB.trans ((show Below wt.heap.size wt _ by (repeat (first | (with_reducible exact Below.refl _ _) | ((with_reducible refine below_alloc ?_ ?_ _); · (first | omega | (simp; done) | (simp; omega))) | ((with_reducible refine below_setCell ?_ ?_ _); · (first | omega | (simp; done) | (simp; omega))) | (with_reducible refine Below.drew ?_) | (with_reducible refine below_drewN ?_ _) | ((with_reducible refine below_call (by assumption) ?_ ?_); · (first | omega | (simp; done) | (simp; omega)))))).mono hB.size)⟩)
  case rest =>
    obtain ⟨bx, byy, rfl, rfl, X, Y, B3⟩ := hcut
    have z3 := B3.size
    clear hB
    have HX3 := Lib.hid X
    have HY3 := Lib.hid Y
    clear Y
    obtain ⟨x0, x1, x2, x3, x4, x5, x6, x7⟩ := X
    go_wp2_with fail
    refine (qp.out _ B3).mono ?_; rintro e w4 ⟨rfl, hb4⟩
    have B4 := below_call hb4 B3.size B3
    have HX4 := Lib.hid (HX3.out.call hb4)
    have HY4 := Lib.hid (HY3.out.call hb4)
    clear x0 x1 x2 x3 x4 x5 x6 x7 HX3 HY3 hb4 qp
    obtain ⟨y0, y1, y2, y3, y4, y5, y6, y7⟩ := id HY4.out
    go_wp2_with fail
    refine (qq.out _ B4).mono ?_; rintro e w5 ⟨rfl, hb5⟩
    have B5 := below_call hb5 B4.size B4
    have HX5 := Lib.hid (HX4.out.call hb5)
    have HY5 := Lib.hid (HY4.out.call hb5)
    clear y0 y1 y2 y3 y4 y5 y6 y7 HX4 HY4 hb5 B3 B4 qq z3
    have dx : Hid (chkS x = 0 → (putT x).size ≤ 128) := Lib.hid (fun h => (put_size h).2)
    have dy : Hid (chkS y = 0 → (putT y).size ≤ 128) := Lib.hid (fun h => (put_size h).2)
    generalize chkS x = E at cp HX HN dx ⊢
    generalize chkS y = G at cq HX HN dy ⊢
    generalize putT x = sx at HX HN dx ⊢
    generalize putT y = sy at HX HN dy ⊢
    obtain ⟨x0, x1, x2, x3, x4, x5, x6, x7⟩ := id HX5.out
    by_cases hE : E = 0
    · by_cases hG : G = 0
      · subst hE hG
        have e1 := HX.out rfl rfl
        have e2 := HN.out rfl rfl
        have d1 := dx.out rfl
        have d2 := dy.out rfl
        obtain ⟨y0, y1, y2, y3, y4, y5, y6, y7⟩ := id HY5.out
        generalize sameS x y = q at qs e1 e2
        clear HX HN cp cq dx dy
        cases q with
        | true =>
          obtain ⟨f1, f2⟩ := e1 rfl
          have f1' : (sx.size : Int) ≤ sy.size := by omega
          have hst := str_beq (sy.extract 0 sx.size) sx
          rw [decide_eq_true f2] at hst
          clear e1 e2 f2 f1
          go_wp2_with fail
          refine (qs.out _).mono ?_; rintro e w6 ⟨rfl, hb6⟩
          have B6 := below_call hb6 B5.size B5
          go_wp2_with fail
          refine (aw.out _ B6).mono ?_; rintro e w7 ⟨rfl, hb7⟩
          have B7 := below_call hb7 B6.size B6
          go_wp2
          go_ret
          exact ⟨rfl, B7⟩
        | false =>
          by_cases hl : sx.size ≤ sy.size
          · have hl' : (sx.size : Int) ≤ sy.size := by omega
            have hst := str_beq (sy.extract 0 sx.size) sx
            rw [decide_eq_false (e2 rfl hl)] at hst
            clear e1 e2 hl
            go_wp2_with fail
            refine (qs.out _).mono ?_; rintro e w6 ⟨rfl, hb6⟩
            have B6 := below_call hb6 B5.size B5
            go_wp2_with fail
            refine (aw.out _ B6).mono ?_; rintro e w7 ⟨rfl, hb7⟩
            have B7 := below_call hb7 B6.size B6
            go_wp2
            go_ret
            exact ⟨rfl, B7⟩
          · have hl' : ¬ (sx.size : Int) ≤ sy.size := by omega
            clear e1 e2 hl
            go_wp2_with fail
            refine (qs.out _).mono ?_; rintro e w6 ⟨rfl, hb6⟩
            have B6 := below_call hb6 B5.size B5
            go_wp2_with fail
            refine (aw.out _ B6).mono ?_; rintro e w7 ⟨rfl, hb7⟩
            have B7 := below_call hb7 B6.size B6
            go_wp2
            go_ret
            exact ⟨rfl, B7⟩
      · have g0 : (G != 0) = true := by simp [hG]
        have gg : (G == G) = true := by simp
        subst hE
        clear hG HX HN dx dy qs
        go_wp2_with fail
        refine (cp.out _ B5).mono ?_; rintro e w6 ⟨rfl, hb6⟩
        have B6 := below_call hb6 B5.size B5
        clear x0 x1 x2 x3 x4 x5 x6 x7
        obtain ⟨y0, y1, y2, y3, y4, y5, y6, y7⟩ := HY5.out.call hb6
        go_wp2_with fail
        refine (cq.out _ B6).mono ?_; rintro e w7 ⟨rfl, hb7⟩
        have B7 := below_call hb7 B6.size B6
        go_wp2_with fail
        refine (aw.out _ B7).mono ?_; rintro e w8 ⟨rfl, hb8⟩
        have B8 := below_call hb8 B7.size B7
        go_wp2
        go_ret
        exact ⟨rfl, B8⟩
    · have g0 : (E != 0) = true := by simp [hE]
      have gg : (E == E) = true := by simp
      have gh : (G == G) = true := by simp
      clear hE HX HN dx dy qs
      go_wp2_with fail
      refine (cp.out _ B5).mono ?_; rintro e w6 ⟨rfl, hb6⟩
      have B6 := below_call hb6 B5.size B5
      clear x0 x1 x2 x3 x4 x5 x6 x7
      obtain ⟨y0, y1, y2, y3, y4, y5, y6, y7⟩ := HY5.out.call hb6
      go_wp2_with fail
      refine (cq.out _ B6).mono ?_; rintro e w7 ⟨rfl, hb7⟩
      have B7 := below_call hb7 B6.size B6
      go_wp2_with fail
      refine (aw.out _ B7).mono ?_; rintro e w8 ⟨rfl, hb8⟩
      have B8 := below_call hb8 B7.size B7
      go_wp2
      go_ret
      exact ⟨rfl, B8⟩

set_option maxRecDepth 100000 in
theorem sunlike_lifted (os : Os) (started : os.Started) (H : Type) (enc : TypeId × Value → H) :
    ReturnsInHanded {} Tryd.checked os 4 .any (fun w args => (Rows.stanzaUnlikeSpec.pre enc Tryd.prog Tryd.f4 Rows.stanzaUnlikeRow.domain false w args ∧ laidMetH Tryd.prog laidU8 w) ∧ sizedMet enc Tryd.prog Tryd.f4 (OpenSpec.ofChange Rows.stanzaUnlikeSpec) false w args)
      (Rows.stanzaUnlikeSpec.post enc Tryd.prog Tryd.f4 false true false false) := by
  refine handed_shape (Pre' := fun w args => (Rows.stanzaUnlikeSpec.pre enc Tryd.prog Tryd.f4 Rows.stanzaUnlikeRow.domain false w args ∧ (laidMetH Tryd.prog laidU8 w ∧ Maxs w)) ∧ sizedMet enc Tryd.prog Tryd.f4 (OpenSpec.ofChange Rows.stanzaUnlikeSpec) false w args) (fun w args hs h => ⟨⟨h.1.1, h.1.2, maxs_of_shape hs⟩, h.2⟩) (fun w args h => ⟨⟨h.1.1, h.1.2.1⟩, h.2⟩) ?_
  refine returnsInHanded_of_change_and (C := Tryd.checked) (X := fun w _ => laidMetH Tryd.prog laidU8 w ∧ Maxs w) (fun _ _ _ hh h => ⟨h.1.of_heap hh, h.2.of_heap hh⟩) own started (by kernel_rfl) Tryd.func4
    (ChangeSpec.witness_shaped (enc := enc) (C := Tryd.checked) (os := os) (X := fun w _ => laidMetH Tryd.prog laidU8 w ∧ Maxs w) false (World.laidAll Tryd.prog os laidU8) #[.agg #[.int .u8 0, .string ⟨#[]⟩, .string ⟨#[]⟩, .string ⟨#[]⟩, .int .i64 0, .int .i64 0, .int .i64 0, .int .i64 0], .agg #[.int .u8 0, .string ⟨#[]⟩, .string ⟨#[]⟩, .string ⟨#[]⟩, .int .i64 0, .int .i64 0, .int .i64 0, .int .i64 0]] 8 (World.laidAll_os _ _ _)
      (World.shaped_of_ZipB (by kernel_rfl) (by kernel_rfl)) (by kernel_rfl) (by kernel_rfl) (by kernel_rfl)
      ⟨by rw [MakeChecks.laidMetH_plain _ _ _ (by kernel_rfl)]; exact laidMet_laidAll _ (by kernel_rfl) (by kernel_rfl), maxs_laid os⟩) ?_
  intro W base args ds gs before hval0 hW _ _ hLM _
  obtain ⟨hL, hM⟩ := hLM
  have hval : ∀ (j : Nat) t v, Tryd.f4.params[j]? = some t → args[j]? = some v → Value.okWide Tryd.prog W .any base t v := hval0
  have hW' := hW
  obtain ⟨p, q, hA0, hV, rfl, hfz, hnd⟩ := hW
  have hA : DataW.TrodAll enc Tryd.prog W 0 (fun _ => true) true Tryd.f4.params.toList args.toList ds p := hA0
  rw [Tryd.params4] at hA hval
  obtain ⟨v0, vs0, d0, ds0, p0, q0, hargs, rfl, rfl, h0, r0⟩ := trodAll_cons hA
  obtain ⟨v1, vs1, d1, ds1, p1, q1, rfl, rfl, rfl, h1, r1⟩ := trodAll_cons r0
  obtain ⟨rfl, rfl, rfl⟩ := trodAll_nil r1
  obtain rfl : args = #[v0, v1] := by cases args; simp_all
  obtain ⟨rfl, rfl⟩ := trodVars_none hV
  obtain ⟨x, rfl⟩ := open_stanza (hval 0 23 v0 rfl rfl) h0
  obtain ⟨y, rfl⟩ := open_stanza (hval 1 23 v1 rfl rfl) h1
  refine (sunlike_walk x y W ⟨tabs_of_laid hL, hM⟩).mono fun e W' ⟨he, hb⟩ => ?_
  subst he
  exact ⟨_, rfl, law_post rfl rfl Tryd.underlying4 (by kernel_rfl) rfl hW' hb⟩
theorem sunlike_holds : Rows.StanzaUnlikeSaid :=
  OpenClaim.holds_of_wide 4 Tryd.f4 rfl rfl rfl rfl rfl rfl rfl ⟨rfl, rfl, rfl, rfl, rfl⟩ rfl rfl rfl rfl rfl (by kernel_rfl) Tryd.func4 (by kernel_rfl)
    (of_decide_eq_true (by kernel_rfl)) (by unfold Func.isWrapper; first | (rw [if_pos (by decide +kernel)]; kernel_rfl) | (rw [if_neg (by decide +kernel)]; exact ⟨rfl, rfl⟩))
    (fun os started H enc _ => sunlike_lifted os started H enc)
theorem sunlike_card : Rows.StanzaUnlikeCardSaid :=
  Claim7.holds_tied_plain_at .later [] [.data, .pinned] true Rows.stanzaUnlikeCard.stood.harness false sunlike_holds (fun _ h => by cases h) (by kernel_rfl) (fun _ h => by cases h) stanzaUnlike_row_tie rfl ⟨rfl, rfl⟩ (by kernel_rfl) rfl
    (fun f fn hf hfn => by
      obtain rfl : f = 4 := Option.some.inj ((show Tryd.prog.funcNamed "callboy/callboylaw10.StanzaUnlike" = some 4 by kernel_rfl).symm.trans hf) |>.symm
      obtain rfl : fn = Tryd.f4 := (Option.some.inj (Tryd.func4.symm.trans hfn)).symm
      exact ⟨by kernel_rfl, fun j t ht => by
        rw [Tryd.params4] at ht
        have hm : t ∈ [23, 23] := by simpa using Array.mem_of_getElem? ht
        have hall : ([23, 23].all fun u => !Tryd.prog.wantsStandIn u) = true := by kernel_rfl
        exact (show Tryd.prog.wantsStandIn t = false by simpa using List.all_eq_true.1 hall t hm)⟩)
    (by kernel_rfl)
end Go.Proofs.YtiiikfcipnggeaaDoor
