/- AddrOrder: which comes first is an order: never both ways, one way just if they are not the same, and it goes on over a third one: the statement holds for every input. No condition. -/
import Derived.Test.YtngaklciclbofaaDoorLawOpen9
import Derived.Test.YtngaklciclbofaaDoorLawMax
import Derived.Test.YtngaklciclbofaaDoorA9W
import Derived.Deep.RegionHeld3
import Derived.Deep.DeepCutAuto
import Derived.LoopN
namespace Go.Proofs.YtngaklciclbofaaDoor
open Go.RowKit Go.ChangeShapes Go.WideShapes Go.ChangeAt
set_option linter.unusedVariables false
set_option linter.unusedSimpArgs false

/-- all that lay in W lies in w as it did -/
def Fro (W w : World) : Prop := Below W.heap.size W w
theorem Fro.draw (W : World) : Fro W W.drew := Below.drew (Below.refl _ _)
theorem Fro.call {W w w1 : World} (h : Fro W w) (hb : Below w.heap.size w w1) : Fro W w1 := Below.trans h (hb.mono (Below.size h))
theorem Fro.fin {W w W' : World} (hB : Below w.heap.size w W) (h : Fro W W') : Below w.heap.size w W' := Below.trans hB (Below.mono h (Below.size hB))
set_option maxRecDepth 100000 in
set_option maxHeartbeats 16000000 in
theorem aorder_walk (n h r n' h' r' m g q : ByteArray) (w : World) (hT : Tabs9 w) :
    Calls Tryd.prog 6 #[adV n h r, adV n' h' r', adV m g q] w fun e w' => e = .returned (.bool true) ∧ Below w.heap.size w w' := by
  simp only [adV]
  have aw : Hid (∀ W, Below w.heap.size w W → Calls Tryd.prog 7 #[] W fun e w' => e = .returned (.bool true) ∧ Below W.heap.size W w') := Lib.hid (fun W hb => awake_any W (hT.call hb))
  by_cases l1 : (50 : Int) < n.size
  · go_enter Tryd.func6, Tryd.ntmps6
    go_wp2
    refine wp_loop_rounds 4 ?_
    rw [rounds_succ]
    go_wp2_with fail
    refine (aw.out _ (by (repeat (first | (with_reducible exact Below.refl _ _) | ((with_reducible refine below_alloc ?_ ?_ _); · (first | omega | (simp; done) | (simp; omega))) | ((with_reducible refine below_setCell ?_ ?_ _); · (first | omega | (simp; done) | (simp; omega))) | (with_reducible refine Below.drew ?_) | (with_reducible refine below_drewN ?_ _) | ((with_reducible refine below_call (by assumption) ?_ ?_); · (first | omega | (simp; done) | (simp; omega))))))).mono ?_; rintro e w1 ⟨rfl, hb1⟩
    go_wp2
    go_ret
    exact ⟨rfl, by (repeat (first | (with_reducible exact Below.refl _ _) | ((with_reducible refine below_alloc ?_ ?_ _); · (first | omega | (simp; done) | (simp; omega))) | ((with_reducible refine below_setCell ?_ ?_ _); · (first | omega | (simp; done) | (simp; omega))) | (with_reducible refine Below.drew ?_) | (with_reducible refine below_drewN ?_ _) | ((with_reducible refine below_call (by assumption) ?_ ?_); · (first | omega | (simp; done) | (simp; omega)))))⟩
  by_cases l2 : (50 : Int) < h.size
  · go_enter Tryd.func6, Tryd.ntmps6
    go_wp2
    refine wp_loop_rounds 4 ?_
    rw [rounds_succ]
    go_wp2_with fail
    refine (aw.out _ (by (repeat (first | (with_reducible exact Below.refl _ _) | ((with_reducible refine below_alloc ?_ ?_ _); · (first | omega | (simp; done) | (simp; omega))) | ((with_reducible refine below_setCell ?_ ?_ _); · (first | omega | (simp; done) | (simp; omega))) | (with_reducible refine Below.drew ?_) | (with_reducible refine below_drewN ?_ _) | ((with_reducible refine below_call (by assumption) ?_ ?_); · (first | omega | (simp; done) | (simp; omega))))))).mono ?_; rintro e w1 ⟨rfl, hb1⟩
    go_wp2
    go_ret
    exact ⟨rfl, by (repeat (first | (with_reducible exact Below.refl _ _) | ((with_reducible refine below_alloc ?_ ?_ _); · (first | omega | (simp; done) | (simp; omega))) | ((with_reducible refine below_setCell ?_ ?_ _); · (first | omega | (simp; done) | (simp; omega))) | (with_reducible refine Below.drew ?_) | (with_reducible refine below_drewN ?_ _) | ((with_reducible refine below_call (by assumption) ?_ ?_); · (first | omega | (simp; done) | (simp; omega)))))⟩
  by_cases l3 : (50 : Int) < r.size
  · go_enter Tryd.func6, Tryd.ntmps6
    go_wp2
    refine wp_loop_rounds 4 ?_
    rw [rounds_succ]
    go_wp2_with fail
    refine (aw.out _ (by (repeat (first | (with_reducible exact Below.refl _ _) | ((with_reducible refine below_alloc ?_ ?_ _); · (first | omega | (simp; done) | (simp; omega))) | ((with_reducible refine below_setCell ?_ ?_ _); · (first | omega | (simp; done) | (simp; omega))) | (with_reducible refine Below.drew ?_) | (with_reducible refine below_drewN ?_ _) | ((with_reducible refine below_call (by assumption) ?_ ?_); · (first | omega | (simp; done) | (simp; omega))))))).mono ?_; rintro e w1 ⟨rfl, hb1⟩
    go_wp2
    go_ret
    exact ⟨rfl, by (repeat (first | (with_reducible exact Below.refl _ _) | ((with_reducible refine below_alloc ?_ ?_ _); · (first | omega | (simp; done) | (simp; omega))) | ((with_reducible refine below_setCell ?_ ?_ _); · (first | omega | (simp; done) | (simp; omega))) | (with_reducible refine Below.drew ?_) | (with_reducible refine below_drewN ?_ _) | ((with_reducible refine below_call (by assumption) ?_ ?_); · (first | omega | (simp; done) | (simp; omega)))))⟩
  by_cases l4 : (50 : Int) < n'.size
  · go_enter Tryd.func6, Tryd.ntmps6
    go_wp2
    refine wp_loop_rounds 4 ?_
    rw [rounds_succ]
    go_wp2_with fail
    rw [rounds_succ]
    go_wp2_with fail
    refine (aw.out _ (by (repeat (first | (with_reducible exact Below.refl _ _) | ((with_reducible refine below_alloc ?_ ?_ _); · (first | omega | (simp; done) | (simp; omega))) | ((with_reducible refine below_setCell ?_ ?_ _); · (first | omega | (simp; done) | (simp; omega))) | (with_reducible refine Below.drew ?_) | (with_reducible refine below_drewN ?_ _) | ((with_reducible refine below_call (by assumption) ?_ ?_); · (first | omega | (simp; done) | (simp; omega))))))).mono ?_; rintro e w1 ⟨rfl, hb1⟩
    go_wp2
    go_ret
    exact ⟨rfl, by (repeat (first | (with_reducible exact Below.refl _ _) | ((with_reducible refine below_alloc ?_ ?_ _); · (first | omega | (simp; done) | (simp; omega))) | ((with_reducible refine below_setCell ?_ ?_ _); · (first | omega | (simp; done) | (simp; omega))) | (with_reducible refine Below.drew ?_) | (with_reducible refine below_drewN ?_ _) | ((with_reducible refine below_call (by assumption) ?_ ?_); · (first | omega | (simp; done) | (simp; omega)))))⟩
  by_cases l5 : (50 : Int) < h'.size
  · go_enter Tryd.func6, Tryd.ntmps6
    go_wp2
    refine wp_loop_rounds 4 ?_
    rw [rounds_succ]
    go_wp2_with fail
    rw [rounds_succ]
    go_wp2_with fail
    refine (aw.out _ (by (repeat (first | (with_reducible exact Below.refl _ _) | ((with_reducible refine below_alloc ?_ ?_ _); · (first | omega | (simp; done) | (simp; omega))) | ((with_reducible refine below_setCell ?_ ?_ _); · (first | omega | (simp; done) | (simp; omega))) | (with_reducible refine Below.drew ?_) | (with_reducible refine below_drewN ?_ _) | ((with_reducible refine below_call (by assumption) ?_ ?_); · (first | omega | (simp; done) | (simp; omega))))))).mono ?_; rintro e w1 ⟨rfl, hb1⟩
    go_wp2
    go_ret
    exact ⟨rfl, by (repeat (first | (with_reducible exact Below.refl _ _) | ((with_reducible refine below_alloc ?_ ?_ _); · (first | omega | (simp; done) | (simp; omega))) | ((with_reducible refine below_setCell ?_ ?_ _); · (first | omega | (simp; done) | (simp; omega))) | (with_reducible refine Below.drew ?_) | (with_reducible refine below_drewN ?_ _) | ((with_reducible refine below_call (by assumption) ?_ ?_); · (first | omega | (simp; done) | (simp; omega)))))⟩
  by_cases l6 : (50 : Int) < r'.size
  · go_enter Tryd.func6, Tryd.ntmps6
    go_wp2
    refine wp_loop_rounds 4 ?_
    rw [rounds_succ]
    go_wp2_with fail
    rw [rounds_succ]
    go_wp2_with fail
    refine (aw.out _ (by (repeat (first | (with_reducible exact Below.refl _ _) | ((with_reducible refine below_alloc ?_ ?_ _); · (first | omega | (simp; done) | (simp; omega))) | ((with_reducible refine below_setCell ?_ ?_ _); · (first | omega | (simp; done) | (simp; omega))) | (with_reducible refine Below.drew ?_) | (with_reducible refine below_drewN ?_ _) | ((with_reducible refine below_call (by assumption) ?_ ?_); · (first | omega | (simp; done) | (simp; omega))))))).mono ?_; rintro e w1 ⟨rfl, hb1⟩
    go_wp2
    go_ret
    exact ⟨rfl, by (repeat (first | (with_reducible exact Below.refl _ _) | ((with_reducible refine below_alloc ?_ ?_ _); · (first | omega | (simp; done) | (simp; omega))) | ((with_reducible refine below_setCell ?_ ?_ _); · (first | omega | (simp; done) | (simp; omega))) | (with_reducible refine Below.drew ?_) | (with_reducible refine below_drewN ?_ _) | ((with_reducible refine below_call (by assumption) ?_ ?_); · (first | omega | (simp; done) | (simp; omega)))))⟩
  by_cases l7 : (50 : Int) < m.size
  · go_enter Tryd.func6, Tryd.ntmps6
    go_wp2
    refine wp_loop_rounds 4 ?_
    rw [rounds_succ]
    go_wp2_with fail
    rw [rounds_succ]
    go_wp2_with fail
    rw [rounds_succ]
    go_wp2_with fail
    refine (aw.out _ (by (repeat (first | (with_reducible exact Below.refl _ _) | ((with_reducible refine below_alloc ?_ ?_ _); · (first | omega | (simp; done) | (simp; omega))) | ((with_reducible refine below_setCell ?_ ?_ _); · (first | omega | (simp; done) | (simp; omega))) | (with_reducible refine Below.drew ?_) | (with_reducible refine below_drewN ?_ _) | ((with_reducible refine below_call (by assumption) ?_ ?_); · (first | omega | (simp; done) | (simp; omega))))))).mono ?_; rintro e w1 ⟨rfl, hb1⟩
    go_wp2
    go_ret
    exact ⟨rfl, by (repeat (first | (with_reducible exact Below.refl _ _) | ((with_reducible refine below_alloc ?_ ?_ _); · (first | omega | (simp; done) | (simp; omega))) | ((with_reducible refine below_setCell ?_ ?_ _); · (first | omega | (simp; done) | (simp; omega))) | (with_reducible refine Below.drew ?_) | (with_reducible refine below_drewN ?_ _) | ((with_reducible refine below_call (by assumption) ?_ ?_); · (first | omega | (simp; done) | (simp; omega)))))⟩
  by_cases l8 : (50 : Int) < g.size
  · go_enter Tryd.func6, Tryd.ntmps6
    go_wp2
    refine wp_loop_rounds 4 ?_
    rw [rounds_succ]
    go_wp2_with fail
    rw [rounds_succ]
    go_wp2_with fail
    rw [rounds_succ]
    go_wp2_with fail
    refine (aw.out _ (by (repeat (first | (with_reducible exact Below.refl _ _) | ((with_reducible refine below_alloc ?_ ?_ _); · (first | omega | (simp; done) | (simp; omega))) | ((with_reducible refine below_setCell ?_ ?_ _); · (first | omega | (simp; done) | (simp; omega))) | (with_reducible refine Below.drew ?_) | (with_reducible refine below_drewN ?_ _) | ((with_reducible refine below_call (by assumption) ?_ ?_); · (first | omega | (simp; done) | (simp; omega))))))).mono ?_; rintro e w1 ⟨rfl, hb1⟩
    go_wp2
    go_ret
    exact ⟨rfl, by (repeat (first | (with_reducible exact Below.refl _ _) | ((with_reducible refine below_alloc ?_ ?_ _); · (first | omega | (simp; done) | (simp; omega))) | ((with_reducible refine below_setCell ?_ ?_ _); · (first | omega | (simp; done) | (simp; omega))) | (with_reducible refine Below.drew ?_) | (with_reducible refine below_drewN ?_ _) | ((with_reducible refine below_call (by assumption) ?_ ?_); · (first | omega | (simp; done) | (simp; omega)))))⟩
  by_cases l9 : (50 : Int) < q.size
  · go_enter Tryd.func6, Tryd.ntmps6
    go_wp2
    refine wp_loop_rounds 4 ?_
    rw [rounds_succ]
    go_wp2_with fail
    rw [rounds_succ]
    go_wp2_with fail
    rw [rounds_succ]
    go_wp2_with fail
    refine (aw.out _ (by (repeat (first | (with_reducible exact Below.refl _ _) | ((with_reducible refine below_alloc ?_ ?_ _); · (first | omega | (simp; done) | (simp; omega))) | ((with_reducible refine below_setCell ?_ ?_ _); · (first | omega | (simp; done) | (simp; omega))) | (with_reducible refine Below.drew ?_) | (with_reducible refine below_drewN ?_ _) | ((with_reducible refine below_call (by assumption) ?_ ?_); · (first | omega | (simp; done) | (simp; omega))))))).mono ?_; rintro e w1 ⟨rfl, hb1⟩
    go_wp2
    go_ret
    exact ⟨rfl, by (repeat (first | (with_reducible exact Below.refl _ _) | ((with_reducible refine below_alloc ?_ ?_ _); · (first | omega | (simp; done) | (simp; omega))) | ((with_reducible refine below_setCell ?_ ?_ _); · (first | omega | (simp; done) | (simp; omega))) | (with_reducible refine Below.drew ?_) | (with_reducible refine below_drewN ?_ _) | ((with_reducible refine below_call (by assumption) ?_ ?_); · (first | omega | (simp; done) | (simp; omega)))))⟩
  go_enter Tryd.func6, Tryd.ntmps6
  go_wp2
  refine wp_loop_rounds 4 ?_
  rw [rounds_succ]
  go_wp2_with fail
  rw [rounds_succ]
  go_wp2_with fail
  rw [rounds_succ]
  go_wp2_with fail
  rw [rounds_succ]
  go_upto_region 7 with fail
  refine gen_world (F := fun W => Bx3 W w.heap.size n h r ∧ Bx3 W (w.heap.size + 1) n' h' r' ∧ Bx3 W (w.heap.size + 1 + 1) m g q ∧ Below w.heap.size w W) ⟨by simp [Bx3, go_sem], by simp [Bx3, go_sem], by simp [Bx3, go_sem], by (repeat (first | (with_reducible exact Below.refl _ _) | ((with_reducible refine below_alloc ?_ ?_ _); · (first | omega | (simp; done) | (simp; omega))) | ((with_reducible refine below_setCell ?_ ?_ _); · (first | omega | (simp; done) | (simp; omega))) | (with_reducible refine Below.drew ?_) | (with_reducible refine below_drewN ?_ _) | ((with_reducible refine below_call (by assumption) ?_ ?_); · (first | omega | (simp; done) | (simp; omega)))))⟩ (fun wt hF => ?_)
  obtain ⟨X, Y, Z, hB⟩ := hF
  go_cut [9, 10, 11] (fun px py pz wx => ∃ bx byy bz : Nat, px = .pointer (some ⟨bx, 0, none⟩) ∧ py = .pointer (some ⟨byy, 0, none⟩) ∧ pz = .pointer (some ⟨bz, 0, none⟩) ∧ Bx3 wx bx n h r ∧ Bx3 wx byy n' h' r' ∧ Bx3 wx bz m g q ∧ Below w.heap.size w wx)
  case first =>
    have hlx := X.lt
    have hly := Y.lt
    have hlz := Z.lt
    obtain ⟨x0, x1, x2⟩ := id X
    obtain ⟨y0, y1, y2⟩ := id Y
    obtain ⟨z0, z1, z2⟩ := id Z
    have hk : ∀ w', Below wt.heap.size wt w' → ((w'.cell? ⟨w.heap.size, 0, none⟩ = some (.string n) ∧ w'.cell? ⟨w.heap.size, 1, none⟩ = some (.string h) ∧ w'.cell? ⟨w.heap.size, 2, none⟩ = some (.string r)) ∧ (w'.cell? ⟨w.heap.size + 1, 0, none⟩ = some (.string n') ∧ w'.cell? ⟨w.heap.size + 1, 1, none⟩ = some (.string h') ∧ w'.cell? ⟨w.heap.size + 1, 2, none⟩ = some (.string r')) ∧ (w'.cell? ⟨w.heap.size + 1 + 1, 0, none⟩ = some (.string m) ∧ w'.cell? ⟨w.heap.size + 1 + 1, 1, none⟩ = some (.string g) ∧ w'.cell? ⟨w.heap.size + 1 + 1, 2, none⟩ = some (.string q))) := fun w' hb => ⟨X.call hb, Y.call hb, Z.call hb⟩
    go_region_held3 (fun w' => (w'.cell? ⟨w.heap.size, 0, none⟩ = some (.string n) ∧ w'.cell? ⟨w.heap.size, 1, none⟩ = some (.string h) ∧ w'.cell? ⟨w.heap.size, 2, none⟩ = some (.string r)) ∧ (w'.cell? ⟨w.heap.size + 1, 0, none⟩ = some (.string n') ∧ w'.cell? ⟨w.heap.size + 1, 1, none⟩ = some (.string h') ∧ w'.cell? ⟨w.heap.size + 1, 2, none⟩ = some (.string r')) ∧ (w'.cell? ⟨w.heap.size + 1 + 1, 0, none⟩ = some (.string m) ∧ w'.cell? ⟨w.heap.size + 1 + 1, 1, none⟩ = some (.string g) ∧ w'.cell? ⟨w.heap.size + 1 + 1, 2, none⟩ = some (.string q))) (exact hk _ (by (repeat (first | (with_reducible exact Below.refl _ _) | ((with_reducible refine below_alloc ?_ ?_ _); · (first | omega | (simp; done) | (simp; omega))) | ((with_reducible refine below_setCell ?_ ?_ _); · (first | omega | (simp; done) | (simp; omega))) | (with_reducible refine Below.drew ?_) | (with_reducible refine below_drewN ?_ _) | ((with_reducible refine below_call (by assumption) ?_ ?_); · (first | omega | (simp; done) | (simp; omega))))))) (fail)
    all_goals (go_wp2_with fail; go_meet; exact ⟨_, _, _, rfl, rfl, rfl, by simp [Bx3, go_sem], by simp [Bx3, go_sem], by simp [Bx3, go_sem], hB.trans ((show Below wt.heap.size wt _ by (repeat (first | (with_reducible exact Below.refl _ _) | ((with_reducible refine below_alloc ?_ ?_ _); · (first | omega | (simp; done) | (simp; omega))) | ((with_reducible refine below_setCell ?_ ?_ _); · (first | omega | (simp; done) | (simp; omega))) | (with_reducible refine Below.drew ?_) | (with_reducible refine below_drewN ?_ _) | ((with_reducible refine below_call (by assumption) ?_ ?_); · (first | omega | (simp; done) | (simp; omega)))))).mono hB.size)⟩)
  case rest =>
    obtain ⟨bx, byy, bz, rfl, rfl, rfl, X, Y, Z, hB2⟩ := hcut
    have HX := Lib.hid X; have HY := Lib.hid Y; have HZ := Lib.hid Z
    clear X Y Z l1 l2 l3 l4 l5 l6 l7 l8 l9
    cases e1 : lessA (n, h, r) (n', h', r') with
    | true =>
      have hne : decide ((n, h, r) = (n', h', r')) = false := decide_eq_false (fun e => by rw [e, lessA_irrefl] at e1; cases e1)
      cases e2 : lessA (n', h', r') (m, g, q) with
      | true =>
        have q1 : Hid (∀ W, Calls Tryd.prog 22 #[.agg #[.string n, .string h, .string r], .agg #[.string n', .string h', .string r']] W fun e w' => e = .returned (.bool true) ∧ Below W.heap.size W w') := Lib.hid (fun W => by
          have k := aless_any n h r n' h' r' W
          rw [show lessA (n, h, r) (n', h', r') = true from e1] at k
          exact k)
        have q2 : Hid (∀ W, Calls Tryd.prog 22 #[.agg #[.string n', .string h', .string r'], .agg #[.string n, .string h, .string r]] W fun e w' => e = .returned (.bool false) ∧ Below W.heap.size W w') := Lib.hid (fun W => by
          have k := aless_any n' h' r' n h r W
          rw [show lessA (n', h', r') (n, h, r) = false from lessA_asymm e1] at k
          exact k)
        have q3 : Hid (∀ W, Calls Tryd.prog 24 #[.agg #[.string n, .string h, .string r], .agg #[.string n', .string h', .string r']] W fun e w' => e = .returned (.bool false) ∧ Below W.heap.size W w') := Lib.hid (fun W => by
          have k := asame_any n h r n' h' r' W
          rw [show decide ((n, h, r) = (n', h', r')) = false from hne] at k
          exact k)
        have q4 : Hid (∀ W, Calls Tryd.prog 22 #[.agg #[.string n, .string h, .string r], .agg #[.string n, .string h, .string r]] W fun e w' => e = .returned (.bool false) ∧ Below W.heap.size W w') := Lib.hid (fun W => by
          have k := aless_any n h r n h r W
          rw [show lessA (n, h, r) (n, h, r) = false from lessA_irrefl _] at k
          exact k)
        have q5 : Hid (∀ W, Calls Tryd.prog 22 #[.agg #[.string n', .string h', .string r'], .agg #[.string m, .string g, .string q]] W fun e w' => e = .returned (.bool true) ∧ Below W.heap.size W w') := Lib.hid (fun W => by
          have k := aless_any n' h' r' m g q W
          rw [show lessA (n', h', r') (m, g, q) = true from e2] at k
          exact k)
        have q6 : Hid (∀ W, Calls Tryd.prog 22 #[.agg #[.string n, .string h, .string r], .agg #[.string m, .string g, .string q]] W fun e w' => e = .returned (.bool true) ∧ Below W.heap.size W w') := Lib.hid (fun W => by
          have k := aless_any n h r m g q W
          rw [show lessA (n, h, r) (m, g, q) = true from lessA_trans e1 e2] at k
          exact k)
        have hout : ∀ w', Fro wc w' → ((w'.cell? ⟨bx, 0, none⟩ = some (.string n) ∧ w'.cell? ⟨bx, 1, none⟩ = some (.string h) ∧ w'.cell? ⟨bx, 2, none⟩ = some (.string r)) ∧ (w'.cell? ⟨byy, 0, none⟩ = some (.string n') ∧ w'.cell? ⟨byy, 1, none⟩ = some (.string h') ∧ w'.cell? ⟨byy, 2, none⟩ = some (.string r'))) := fun w' hf => ⟨HX.out.call hf, HY.out.call hf⟩
        have hF0 := Fro.draw wc
        go_upto_region 8 with fail
        refine wp_region_held_drew (S := fun w' => (w'.cell? ⟨bx, 0, none⟩ = some (.string n) ∧ w'.cell? ⟨bx, 1, none⟩ = some (.string h) ∧ w'.cell? ⟨bx, 2, none⟩ = some (.string r)) ∧ (w'.cell? ⟨byy, 0, none⟩ = some (.string n') ∧ w'.cell? ⟨byy, 1, none⟩ = some (.string h') ∧ w'.cell? ⟨byy, 2, none⟩ = some (.string r'))) (by kernel_rfl) (hout _ (by assumption)) (fun hHeld => ?_)
        (refine wpAnyH_take (i := 0) (v := ?_) rfl (by kernel_rfl) (by kernel_rfl) (by kernel_rfl) (fun _ _ _ h => h) (Or.inl ⟨by rfl, ?_⟩) (by assumption) ?_; rotate_left 1; (focus (intro wz hz; (try dsimp only at hz); (try simp only [List.getElem_toArray, List.getElem_cons_succ, List.getElem_cons_zero]); go_simp; (try (rw [if_neg (by (try simp only [ByteArray.size_append]); omega)])); try (with_reducible rfl); done)))
        try simp only [Act.put, List.getElem_toArray, List.getElem_cons_succ, List.getElem_cons_zero, List.setIfInBounds_toArray, List.set_cons_zero, List.set_cons_succ]
        (refine wpAnyH_take (i := 1) (v := ?_) rfl (by kernel_rfl) (by kernel_rfl) (by kernel_rfl) (fun _ _ _ h => h) (Or.inl ⟨by rfl, ?_⟩) (by assumption) ?_; rotate_left 1; (focus (intro wz hz; (try dsimp only at hz); (try simp only [List.getElem_toArray, List.getElem_cons_succ, List.getElem_cons_zero]); go_simp; (try (rw [if_neg (by (try simp only [ByteArray.size_append]); omega)])); try (with_reducible rfl); done)))
        try simp only [Act.put, List.getElem_toArray, List.getElem_cons_succ, List.getElem_cons_zero, List.setIfInBounds_toArray, List.set_cons_zero, List.set_cons_succ]
        (refine wpAnyH_take (i := 3) (v := ?_) rfl (by kernel_rfl) (by kernel_rfl) (by kernel_rfl) (fun _ _ _ h => h) (Or.inl ⟨by rfl, ?_⟩) (by assumption) ?_; rotate_left 1; (focus (intro wz hz; (try dsimp only at hz); (try simp only [List.getElem_toArray, List.getElem_cons_succ, List.getElem_cons_zero]); go_simp; (try (rw [if_neg (by (try simp only [ByteArray.size_append]); omega)])); try (with_reducible rfl); done)))
        try simp only [Act.put, List.getElem_toArray, List.getElem_cons_succ, List.getElem_cons_zero, List.setIfInBounds_toArray, List.set_cons_zero, List.set_cons_succ]
        (refine wpAnyH_take (i := 4) (v := ?_) rfl (by kernel_rfl) (by kernel_rfl) (by kernel_rfl) (fun _ _ _ h => h) (Or.inl ⟨by rfl, ?_⟩) (by assumption) ?_; rotate_left 1; (focus (intro wz hz; (try dsimp only at hz); (try simp only [List.getElem_toArray, List.getElem_cons_succ, List.getElem_cons_zero]); go_simp; (try (rw [if_neg (by (try simp only [ByteArray.size_append]); omega)])); try (with_reducible rfl); done)))
        try simp only [Act.put, List.getElem_toArray, List.getElem_cons_succ, List.getElem_cons_zero, List.setIfInBounds_toArray, List.set_cons_zero, List.set_cons_succ]
        (refine wpAnyH_ready (rs := [2]) (by kernel_rfl) (by simp) ?_; refine AllReadyH.cons rfl (fun K hK => ?_) AllReadyH.nil; (try simp only [List.getElem_toArray, List.getElem_cons_succ, List.getElem_cons_zero]); go_simp; go_at_call 22; refine (q1.out _).mono ?_; rintro e wn2 ⟨rfl, hbn2⟩; have hTn2 := Fro.call (by assumption) hbn2; (try (go_wp2_with fail)); refine hK.out _ _ (hout _ (by assumption)) (fun hHeld => ?_); clear hK K)
        try simp only [Act.put, List.getElem_toArray, List.getElem_cons_succ, List.getElem_cons_zero, List.setIfInBounds_toArray, List.set_cons_zero, List.set_cons_succ]
        (refine wpAnyH_ready (rs := [5]) (by kernel_rfl) (by simp) ?_; refine AllReadyH.cons rfl (fun K hK => ?_) AllReadyH.nil; (try simp only [List.getElem_toArray, List.getElem_cons_succ, List.getElem_cons_zero]); go_simp; go_at_call 22; refine (q2.out _).mono ?_; rintro e wn5 ⟨rfl, hbn5⟩; have hTn5 := Fro.call (by assumption) hbn5; (try (go_wp2_with fail)); refine hK.out _ _ (hout _ (by assumption)) (fun hHeld => ?_); clear hK K)
        try simp only [Act.put, List.getElem_toArray, List.getElem_cons_succ, List.getElem_cons_zero, List.setIfInBounds_toArray, List.set_cons_zero, List.set_cons_succ]
        (refine wpAnyH_take (i := 6) (v := ?_) rfl (by kernel_rfl) (by kernel_rfl) (by kernel_rfl) (fun _ _ _ h => h) (Or.inl ⟨by rfl, ?_⟩) (by assumption) ?_; rotate_left 1; (focus (intro wz hz; (try dsimp only at hz); (try simp only [List.getElem_toArray, List.getElem_cons_succ, List.getElem_cons_zero]); go_simp; (try (rw [if_neg (by (try simp only [ByteArray.size_append]); omega)])); try (with_reducible rfl); done)))
        try simp only [Act.put, List.getElem_toArray, List.getElem_cons_succ, List.getElem_cons_zero, List.setIfInBounds_toArray, List.set_cons_zero, List.set_cons_succ]
        (refine wpAnyH_take (i := 7) (v := ?_) rfl (by kernel_rfl) (by kernel_rfl) (by kernel_rfl) (fun _ _ _ h => h) (Or.inl ⟨by rfl, ?_⟩) (by assumption) ?_; rotate_left 1; (focus (intro wz hz; (try dsimp only at hz); (try simp only [List.getElem_toArray, List.getElem_cons_succ, List.getElem_cons_zero]); go_simp; (try (rw [if_neg (by (try simp only [ByteArray.size_append]); omega)])); try (with_reducible rfl); done)))
        try simp only [Act.put, List.getElem_toArray, List.getElem_cons_succ, List.getElem_cons_zero, List.setIfInBounds_toArray, List.set_cons_zero, List.set_cons_succ]
        refine wpAnyH_done (by kernel_rfl) ?_ _
        clear hHeld hout hF0
        have hB3 := Fro.fin hB2 hTn5
        have X1 := Lib.hid (HX.out.call hTn5); have Y1 := Lib.hid (HY.out.call hTn5); have Z1 := Lib.hid (HZ.out.call hTn5)
        clear hTn5 hbn5 hTn2 hbn2 HX HY HZ
        obtain ⟨x0, x1, x2⟩ := id X1.out
        obtain ⟨y0, y1, y2⟩ := id Y1.out
        obtain ⟨z0, z1, z2⟩ := id Z1.out
        go_wp2_with fail
        refine (q3.out _).mono ?_; rintro e w21 ⟨rfl, hb21⟩
        have hB21 := below_call hb21 hB3.size hB3
        have X2 := Lib.hid (X1.out.call hb21); have Y2 := Lib.hid (Y1.out.call hb21); have Z2 := Lib.hid (Z1.out.call hb21)
        clear x0 x1 x2 y0 y1 y2 z0 z1 z2
        obtain ⟨x0, x1, x2⟩ := id X2.out
        obtain ⟨y0, y1, y2⟩ := id Y2.out
        obtain ⟨z0, z1, z2⟩ := id Z2.out
        go_wp2_with fail
        refine (q4.out _).mono ?_; rintro e w22 ⟨rfl, hb22⟩
        have hB22 := below_call hb22 hB21.size hB21
        have X3 := Lib.hid (X2.out.call hb22); have Y3 := Lib.hid (Y2.out.call hb22); have Z3 := Lib.hid (Z2.out.call hb22)
        clear x0 x1 x2 y0 y1 y2 z0 z1 z2
        obtain ⟨x0, x1, x2⟩ := id X3.out
        obtain ⟨y0, y1, y2⟩ := id Y3.out
        obtain ⟨z0, z1, z2⟩ := id Z3.out
        go_wp2_with fail
        refine (q5.out _).mono ?_; rintro e w23 ⟨rfl, hb23⟩
        have hB23 := below_call hb23 hB22.size hB22
        have X4 := Lib.hid (X3.out.call hb23); have Y4 := Lib.hid (Y3.out.call hb23); have Z4 := Lib.hid (Z3.out.call hb23)
        clear x0 x1 x2 y0 y1 y2 z0 z1 z2
        obtain ⟨x0, x1, x2⟩ := id X4.out
        obtain ⟨y0, y1, y2⟩ := id Y4.out
        obtain ⟨z0, z1, z2⟩ := id Z4.out
        go_wp2_with fail
        refine (q6.out _).mono ?_; rintro e w24 ⟨rfl, hb24⟩
        have hB24 := below_call hb24 hB23.size hB23
        have X5 := Lib.hid (X4.out.call hb24); have Y5 := Lib.hid (Y4.out.call hb24); have Z5 := Lib.hid (Z4.out.call hb24)
        clear x0 x1 x2 y0 y1 y2 z0 z1 z2
        obtain ⟨x0, x1, x2⟩ := id X5.out
        obtain ⟨y0, y1, y2⟩ := id Y5.out
        obtain ⟨z0, z1, z2⟩ := id Z5.out
        go_wp2_with fail
        refine (aw.out _ hB24).mono ?_; rintro e w40 ⟨rfl, hb40⟩
        go_wp2
        go_ret
        exact ⟨rfl, below_call hb40 hB24.size hB24⟩
      | false =>
        have q1 : Hid (∀ W, Calls Tryd.prog 22 #[.agg #[.string n, .string h, .string r], .agg #[.string n', .string h', .string r']] W fun e w' => e = .returned (.bool true) ∧ Below W.heap.size W w') := Lib.hid (fun W => by
          have k := aless_any n h r n' h' r' W
          rw [show lessA (n, h, r) (n', h', r') = true from e1] at k
          exact k)
        have q2 : Hid (∀ W, Calls Tryd.prog 22 #[.agg #[.string n', .string h', .string r'], .agg #[.string n, .string h, .string r]] W fun e w' => e = .returned (.bool false) ∧ Below W.heap.size W w') := Lib.hid (fun W => by
          have k := aless_any n' h' r' n h r W
          rw [show lessA (n', h', r') (n, h, r) = false from lessA_asymm e1] at k
          exact k)
        have q3 : Hid (∀ W, Calls Tryd.prog 24 #[.agg #[.string n, .string h, .string r], .agg #[.string n', .string h', .string r']] W fun e w' => e = .returned (.bool false) ∧ Below W.heap.size W w') := Lib.hid (fun W => by
          have k := asame_any n h r n' h' r' W
          rw [show decide ((n, h, r) = (n', h', r')) = false from hne] at k
          exact k)
        have q4 : Hid (∀ W, Calls Tryd.prog 22 #[.agg #[.string n, .string h, .string r], .agg #[.string n, .string h, .string r]] W fun e w' => e = .returned (.bool false) ∧ Below W.heap.size W w') := Lib.hid (fun W => by
          have k := aless_any n h r n h r W
          rw [show lessA (n, h, r) (n, h, r) = false from lessA_irrefl _] at k
          exact k)
        have q5 : Hid (∀ W, Calls Tryd.prog 22 #[.agg #[.string n', .string h', .string r'], .agg #[.string m, .string g, .string q]] W fun e w' => e = .returned (.bool false) ∧ Below W.heap.size W w') := Lib.hid (fun W => by
          have k := aless_any n' h' r' m g q W
          rw [show lessA (n', h', r') (m, g, q) = false from e2] at k
          exact k)
        have hout : ∀ w', Fro wc w' → ((w'.cell? ⟨bx, 0, none⟩ = some (.string n) ∧ w'.cell? ⟨bx, 1, none⟩ = some (.string h) ∧ w'.cell? ⟨bx, 2, none⟩ = some (.string r)) ∧ (w'.cell? ⟨byy, 0, none⟩ = some (.string n') ∧ w'.cell? ⟨byy, 1, none⟩ = some (.string h') ∧ w'.cell? ⟨byy, 2, none⟩ = some (.string r'))) := fun w' hf => ⟨HX.out.call hf, HY.out.call hf⟩
        have hF0 := Fro.draw wc
        go_upto_region 8 with fail
        refine wp_region_held_drew (S := fun w' => (w'.cell? ⟨bx, 0, none⟩ = some (.string n) ∧ w'.cell? ⟨bx, 1, none⟩ = some (.string h) ∧ w'.cell? ⟨bx, 2, none⟩ = some (.string r)) ∧ (w'.cell? ⟨byy, 0, none⟩ = some (.string n') ∧ w'.cell? ⟨byy, 1, none⟩ = some (.string h') ∧ w'.cell? ⟨byy, 2, none⟩ = some (.string r'))) (by kernel_rfl) (hout _ (by assumption)) (fun hHeld => ?_)
        (refine wpAnyH_take (i := 0) (v := ?_) rfl (by kernel_rfl) (by kernel_rfl) (by kernel_rfl) (fun _ _ _ h => h) (Or.inl ⟨by rfl, ?_⟩) (by assumption) ?_; rotate_left 1; (focus (intro wz hz; (try dsimp only at hz); (try simp only [List.getElem_toArray, List.getElem_cons_succ, List.getElem_cons_zero]); go_simp; (try (rw [if_neg (by (try simp only [ByteArray.size_append]); omega)])); try (with_reducible rfl); done)))
        try simp only [Act.put, List.getElem_toArray, List.getElem_cons_succ, List.getElem_cons_zero, List.setIfInBounds_toArray, List.set_cons_zero, List.set_cons_succ]
        (refine wpAnyH_take (i := 1) (v := ?_) rfl (by kernel_rfl) (by kernel_rfl) (by kernel_rfl) (fun _ _ _ h => h) (Or.inl ⟨by rfl, ?_⟩) (by assumption) ?_; rotate_left 1; (focus (intro wz hz; (try dsimp only at hz); (try simp only [List.getElem_toArray, List.getElem_cons_succ, List.getElem_cons_zero]); go_simp; (try (rw [if_neg (by (try simp only [ByteArray.size_append]); omega)])); try (with_reducible rfl); done)))
        try simp only [Act.put, List.getElem_toArray, List.getElem_cons_succ, List.getElem_cons_zero, List.setIfInBounds_toArray, List.set_cons_zero, List.set_cons_succ]
        (refine wpAnyH_take (i := 3) (v := ?_) rfl (by kernel_rfl) (by kernel_rfl) (by kernel_rfl) (fun _ _ _ h => h) (Or.inl ⟨by rfl, ?_⟩) (by assumption) ?_; rotate_left 1; (focus (intro wz hz; (try dsimp only at hz); (try simp only [List.getElem_toArray, List.getElem_cons_succ, List.getElem_cons_zero]); go_simp; (try (rw [if_neg (by (try simp only [ByteArray.size_append]); omega)])); try (with_reducible rfl); done)))
        try simp only [Act.put, List.getElem_toArray, List.getElem_cons_succ, List.getElem_cons_zero, List.setIfInBounds_toArray, List.set_cons_zero, List.set_cons_succ]
        (refine wpAnyH_take (i := 4) (v := ?_) rfl (by kernel_rfl) (by kernel_rfl) (by kernel_rfl) (fun _ _ _ h => h) (Or.inl ⟨by rfl, ?_⟩) (by assumption) ?_; rotate_left 1; (focus (intro wz hz; (try dsimp only at hz); (try simp only [List.getElem_toArray, List.getElem_cons_succ, List.getElem_cons_zero]); go_simp; (try (rw [if_neg (by (try simp only [ByteArray.size_append]); omega)])); try (with_reducible rfl); done)))
        try simp only [Act.put, List.getElem_toArray, List.getElem_cons_succ, List.getElem_cons_zero, List.setIfInBounds_toArray, List.set_cons_zero, List.set_cons_succ]
        (refine wpAnyH_ready (rs := [2]) (by kernel_rfl) (by simp) ?_; refine AllReadyH.cons rfl (fun K hK => ?_) AllReadyH.nil; (try simp only [List.getElem_toArray, List.getElem_cons_succ, List.getElem_cons_zero]); go_simp; go_at_call 22; refine (q1.out _).mono ?_; rintro e wn2 ⟨rfl, hbn2⟩; have hTn2 := Fro.call (by assumption) hbn2; (try (go_wp2_with fail)); refine hK.out _ _ (hout _ (by assumption)) (fun hHeld => ?_); clear hK K)
        try simp only [Act.put, List.getElem_toArray, List.getElem_cons_succ, List.getElem_cons_zero, List.setIfInBounds_toArray, List.set_cons_zero, List.set_cons_succ]
        (refine wpAnyH_ready (rs := [5]) (by kernel_rfl) (by simp) ?_; refine AllReadyH.cons rfl (fun K hK => ?_) AllReadyH.nil; (try simp only [List.getElem_toArray, List.getElem_cons_succ, List.getElem_cons_zero]); go_simp; go_at_call 22; refine (q2.out _).mono ?_; rintro e wn5 ⟨rfl, hbn5⟩; have hTn5 := Fro.call (by assumption) hbn5; (try (go_wp2_with fail)); refine hK.out _ _ (hout _ (by assumption)) (fun hHeld => ?_); clear hK K)
        try simp only [Act.put, List.getElem_toArray, List.getElem_cons_succ, List.getElem_cons_zero, List.setIfInBounds_toArray, List.set_cons_zero, List.set_cons_succ]
        (refine wpAnyH_take (i := 6) (v := ?_) rfl (by kernel_rfl) (by kernel_rfl) (by kernel_rfl) (fun _ _ _ h => h) (Or.inl ⟨by rfl, ?_⟩) (by assumption) ?_; rotate_left 1; (focus (intro wz hz; (try dsimp only at hz); (try simp only [List.getElem_toArray, List.getElem_cons_succ, List.getElem_cons_zero]); go_simp; (try (rw [if_neg (by (try simp only [ByteArray.size_append]); omega)])); try (with_reducible rfl); done)))
        try simp only [Act.put, List.getElem_toArray, List.getElem_cons_succ, List.getElem_cons_zero, List.setIfInBounds_toArray, List.set_cons_zero, List.set_cons_succ]
        (refine wpAnyH_take (i := 7) (v := ?_) rfl (by kernel_rfl) (by kernel_rfl) (by kernel_rfl) (fun _ _ _ h => h) (Or.inl ⟨by rfl, ?_⟩) (by assumption) ?_; rotate_left 1; (focus (intro wz hz; (try dsimp only at hz); (try simp only [List.getElem_toArray, List.getElem_cons_succ, List.getElem_cons_zero]); go_simp; (try (rw [if_neg (by (try simp only [ByteArray.size_append]); omega)])); try (with_reducible rfl); done)))
        try simp only [Act.put, List.getElem_toArray, List.getElem_cons_succ, List.getElem_cons_zero, List.setIfInBounds_toArray, List.set_cons_zero, List.set_cons_succ]
        refine wpAnyH_done (by kernel_rfl) ?_ _
        clear hHeld hout hF0
        have hB3 := Fro.fin hB2 hTn5
        have X1 := Lib.hid (HX.out.call hTn5); have Y1 := Lib.hid (HY.out.call hTn5); have Z1 := Lib.hid (HZ.out.call hTn5)
        clear hTn5 hbn5 hTn2 hbn2 HX HY HZ
        obtain ⟨x0, x1, x2⟩ := id X1.out
        obtain ⟨y0, y1, y2⟩ := id Y1.out
        obtain ⟨z0, z1, z2⟩ := id Z1.out
        go_wp2_with fail
        refine (q3.out _).mono ?_; rintro e w21 ⟨rfl, hb21⟩
        have hB21 := below_call hb21 hB3.size hB3
        have X2 := Lib.hid (X1.out.call hb21); have Y2 := Lib.hid (Y1.out.call hb21); have Z2 := Lib.hid (Z1.out.call hb21)
        clear x0 x1 x2 y0 y1 y2 z0 z1 z2
        obtain ⟨x0, x1, x2⟩ := id X2.out
        obtain ⟨y0, y1, y2⟩ := id Y2.out
        obtain ⟨z0, z1, z2⟩ := id Z2.out
        go_wp2_with fail
        refine (q4.out _).mono ?_; rintro e w22 ⟨rfl, hb22⟩
        have hB22 := below_call hb22 hB21.size hB21
        have X3 := Lib.hid (X2.out.call hb22); have Y3 := Lib.hid (Y2.out.call hb22); have Z3 := Lib.hid (Z2.out.call hb22)
        clear x0 x1 x2 y0 y1 y2 z0 z1 z2
        obtain ⟨x0, x1, x2⟩ := id X3.out
        obtain ⟨y0, y1, y2⟩ := id Y3.out
        obtain ⟨z0, z1, z2⟩ := id Z3.out
        go_wp2_with fail
        refine (q5.out _).mono ?_; rintro e w23 ⟨rfl, hb23⟩
        have hB23 := below_call hb23 hB22.size hB22
        have X4 := Lib.hid (X3.out.call hb23); have Y4 := Lib.hid (Y3.out.call hb23); have Z4 := Lib.hid (Z3.out.call hb23)
        clear x0 x1 x2 y0 y1 y2 z0 z1 z2
        obtain ⟨x0, x1, x2⟩ := id X4.out
        obtain ⟨y0, y1, y2⟩ := id Y4.out
        obtain ⟨z0, z1, z2⟩ := id Z4.out
        go_wp2_with fail
        refine (aw.out _ hB23).mono ?_; rintro e w40 ⟨rfl, hb40⟩
        go_wp2
        go_ret
        exact ⟨rfl, below_call hb40 hB23.size hB23⟩
    | false =>
      cases e2 : lessA (n', h', r') (n, h, r) with
      | true =>
        have hne : decide ((n, h, r) = (n', h', r')) = false := decide_eq_false (fun e => by rw [e, lessA_irrefl] at e2; cases e2)
        have q1 : Hid (∀ W, Calls Tryd.prog 22 #[.agg #[.string n, .string h, .string r], .agg #[.string n', .string h', .string r']] W fun e w' => e = .returned (.bool false) ∧ Below W.heap.size W w') := Lib.hid (fun W => by
          have k := aless_any n h r n' h' r' W
          rw [show lessA (n, h, r) (n', h', r') = false from e1] at k
          exact k)
        have q2 : Hid (∀ W, Calls Tryd.prog 22 #[.agg #[.string n', .string h', .string r'], .agg #[.string n, .string h, .string r]] W fun e w' => e = .returned (.bool true) ∧ Below W.heap.size W w') := Lib.hid (fun W => by
          have k := aless_any n' h' r' n h r W
          rw [show lessA (n', h', r') (n, h, r) = true from e2] at k
          exact k)
        have q3 : Hid (∀ W, Calls Tryd.prog 24 #[.agg #[.string n, .string h, .string r], .agg #[.string n', .string h', .string r']] W fun e w' => e = .returned (.bool false) ∧ Below W.heap.size W w') := Lib.hid (fun W => by
          have k := asame_any n h r n' h' r' W
          rw [show decide ((n, h, r) = (n', h', r')) = false from hne] at k
          exact k)
        have q4 : Hid (∀ W, Calls Tryd.prog 22 #[.agg #[.string n, .string h, .string r], .agg #[.string n, .string h, .string r]] W fun e w' => e = .returned (.bool false) ∧ Below W.heap.size W w') := Lib.hid (fun W => by
          have k := aless_any n h r n h r W
          rw [show lessA (n, h, r) (n, h, r) = false from lessA_irrefl _] at k
          exact k)
        have hout : ∀ w', Fro wc w' → ((w'.cell? ⟨bx, 0, none⟩ = some (.string n) ∧ w'.cell? ⟨bx, 1, none⟩ = some (.string h) ∧ w'.cell? ⟨bx, 2, none⟩ = some (.string r)) ∧ (w'.cell? ⟨byy, 0, none⟩ = some (.string n') ∧ w'.cell? ⟨byy, 1, none⟩ = some (.string h') ∧ w'.cell? ⟨byy, 2, none⟩ = some (.string r'))) := fun w' hf => ⟨HX.out.call hf, HY.out.call hf⟩
        have hF0 := Fro.draw wc
        go_upto_region 8 with fail
        refine wp_region_held_drew (S := fun w' => (w'.cell? ⟨bx, 0, none⟩ = some (.string n) ∧ w'.cell? ⟨bx, 1, none⟩ = some (.string h) ∧ w'.cell? ⟨bx, 2, none⟩ = some (.string r)) ∧ (w'.cell? ⟨byy, 0, none⟩ = some (.string n') ∧ w'.cell? ⟨byy, 1, none⟩ = some (.string h') ∧ w'.cell? ⟨byy, 2, none⟩ = some (.string r'))) (by kernel_rfl) (hout _ (by assumption)) (fun hHeld => ?_)
        (refine wpAnyH_take (i := 0) (v := ?_) rfl (by kernel_rfl) (by kernel_rfl) (by kernel_rfl) (fun _ _ _ h => h) (Or.inl ⟨by rfl, ?_⟩) (by assumption) ?_; rotate_left 1; (focus (intro wz hz; (try dsimp only at hz); (try simp only [List.getElem_toArray, List.getElem_cons_succ, List.getElem_cons_zero]); go_simp; (try (rw [if_neg (by (try simp only [ByteArray.size_append]); omega)])); try (with_reducible rfl); done)))
        try simp only [Act.put, List.getElem_toArray, List.getElem_cons_succ, List.getElem_cons_zero, List.setIfInBounds_toArray, List.set_cons_zero, List.set_cons_succ]
        (refine wpAnyH_take (i := 1) (v := ?_) rfl (by kernel_rfl) (by kernel_rfl) (by kernel_rfl) (fun _ _ _ h => h) (Or.inl ⟨by rfl, ?_⟩) (by assumption) ?_; rotate_left 1; (focus (intro wz hz; (try dsimp only at hz); (try simp only [List.getElem_toArray, List.getElem_cons_succ, List.getElem_cons_zero]); go_simp; (try (rw [if_neg (by (try simp only [ByteArray.size_append]); omega)])); try (with_reducible rfl); done)))
        try simp only [Act.put, List.getElem_toArray, List.getElem_cons_succ, List.getElem_cons_zero, List.setIfInBounds_toArray, List.set_cons_zero, List.set_cons_succ]
        (refine wpAnyH_take (i := 3) (v := ?_) rfl (by kernel_rfl) (by kernel_rfl) (by kernel_rfl) (fun _ _ _ h => h) (Or.inl ⟨by rfl, ?_⟩) (by assumption) ?_; rotate_left 1; (focus (intro wz hz; (try dsimp only at hz); (try simp only [List.getElem_toArray, List.getElem_cons_succ, List.getElem_cons_zero]); go_simp; (try (rw [if_neg (by (try simp only [ByteArray.size_append]); omega)])); try (with_reducible rfl); done)))
        try simp only [Act.put, List.getElem_toArray, List.getElem_cons_succ, List.getElem_cons_zero, List.setIfInBounds_toArray, List.set_cons_zero, List.set_cons_succ]
        (refine wpAnyH_take (i := 4) (v := ?_) rfl (by kernel_rfl) (by kernel_rfl) (by kernel_rfl) (fun _ _ _ h => h) (Or.inl ⟨by rfl, ?_⟩) (by assumption) ?_; rotate_left 1; (focus (intro wz hz; (try dsimp only at hz); (try simp only [List.getElem_toArray, List.getElem_cons_succ, List.getElem_cons_zero]); go_simp; (try (rw [if_neg (by (try simp only [ByteArray.size_append]); omega)])); try (with_reducible rfl); done)))
        try simp only [Act.put, List.getElem_toArray, List.getElem_cons_succ, List.getElem_cons_zero, List.setIfInBounds_toArray, List.set_cons_zero, List.set_cons_succ]
        (refine wpAnyH_ready (rs := [2]) (by kernel_rfl) (by simp) ?_; refine AllReadyH.cons rfl (fun K hK => ?_) AllReadyH.nil; (try simp only [List.getElem_toArray, List.getElem_cons_succ, List.getElem_cons_zero]); go_simp; go_at_call 22; refine (q1.out _).mono ?_; rintro e wn2 ⟨rfl, hbn2⟩; have hTn2 := Fro.call (by assumption) hbn2; (try (go_wp2_with fail)); refine hK.out _ _ (hout _ (by assumption)) (fun hHeld => ?_); clear hK K)
        try simp only [Act.put, List.getElem_toArray, List.getElem_cons_succ, List.getElem_cons_zero, List.setIfInBounds_toArray, List.set_cons_zero, List.set_cons_succ]
        (refine wpAnyH_ready (rs := [5]) (by kernel_rfl) (by simp) ?_; refine AllReadyH.cons rfl (fun K hK => ?_) AllReadyH.nil; (try simp only [List.getElem_toArray, List.getElem_cons_succ, List.getElem_cons_zero]); go_simp; go_at_call 22; refine (q2.out _).mono ?_; rintro e wn5 ⟨rfl, hbn5⟩; have hTn5 := Fro.call (by assumption) hbn5; (try (go_wp2_with fail)); refine hK.out _ _ (hout _ (by assumption)) (fun hHeld => ?_); clear hK K)
        try simp only [Act.put, List.getElem_toArray, List.getElem_cons_succ, List.getElem_cons_zero, List.setIfInBounds_toArray, List.set_cons_zero, List.set_cons_succ]
        (refine wpAnyH_take (i := 6) (v := ?_) rfl (by kernel_rfl) (by kernel_rfl) (by kernel_rfl) (fun _ _ _ h => h) (Or.inl ⟨by rfl, ?_⟩) (by assumption) ?_; rotate_left 1; (focus (intro wz hz; (try dsimp only at hz); (try simp only [List.getElem_toArray, List.getElem_cons_succ, List.getElem_cons_zero]); go_simp; (try (rw [if_neg (by (try simp only [ByteArray.size_append]); omega)])); try (with_reducible rfl); done)))
        try simp only [Act.put, List.getElem_toArray, List.getElem_cons_succ, List.getElem_cons_zero, List.setIfInBounds_toArray, List.set_cons_zero, List.set_cons_succ]
        (refine wpAnyH_take (i := 7) (v := ?_) rfl (by kernel_rfl) (by kernel_rfl) (by kernel_rfl) (fun _ _ _ h => h) (Or.inl ⟨by rfl, ?_⟩) (by assumption) ?_; rotate_left 1; (focus (intro wz hz; (try dsimp only at hz); (try simp only [List.getElem_toArray, List.getElem_cons_succ, List.getElem_cons_zero]); go_simp; (try (rw [if_neg (by (try simp only [ByteArray.size_append]); omega)])); try (with_reducible rfl); done)))
        try simp only [Act.put, List.getElem_toArray, List.getElem_cons_succ, List.getElem_cons_zero, List.setIfInBounds_toArray, List.set_cons_zero, List.set_cons_succ]
        refine wpAnyH_done (by kernel_rfl) ?_ _
        clear hHeld hout hF0
        have hB3 := Fro.fin hB2 hTn5
        have X1 := Lib.hid (HX.out.call hTn5); have Y1 := Lib.hid (HY.out.call hTn5); have Z1 := Lib.hid (HZ.out.call hTn5)
        clear hTn5 hbn5 hTn2 hbn2 HX HY HZ
        obtain ⟨x0, x1, x2⟩ := id X1.out
        obtain ⟨y0, y1, y2⟩ := id Y1.out
        obtain ⟨z0, z1, z2⟩ := id Z1.out
        go_wp2_with fail
        refine (q3.out _).mono ?_; rintro e w21 ⟨rfl, hb21⟩
        have hB21 := below_call hb21 hB3.size hB3
        have X2 := Lib.hid (X1.out.call hb21); have Y2 := Lib.hid (Y1.out.call hb21); have Z2 := Lib.hid (Z1.out.call hb21)
        clear x0 x1 x2 y0 y1 y2 z0 z1 z2
        obtain ⟨x0, x1, x2⟩ := id X2.out
        obtain ⟨y0, y1, y2⟩ := id Y2.out
        obtain ⟨z0, z1, z2⟩ := id Z2.out
        go_wp2_with fail
        refine (q4.out _).mono ?_; rintro e w22 ⟨rfl, hb22⟩
        have hB22 := below_call hb22 hB21.size hB21
        have X3 := Lib.hid (X2.out.call hb22); have Y3 := Lib.hid (Y2.out.call hb22); have Z3 := Lib.hid (Z2.out.call hb22)
        clear x0 x1 x2 y0 y1 y2 z0 z1 z2
        obtain ⟨x0, x1, x2⟩ := id X3.out
        obtain ⟨y0, y1, y2⟩ := id Y3.out
        obtain ⟨z0, z1, z2⟩ := id Z3.out
        go_wp2_with fail
        refine (aw.out _ hB22).mono ?_; rintro e w40 ⟨rfl, hb40⟩
        go_wp2
        go_ret
        exact ⟨rfl, below_call hb40 hB22.size hB22⟩
      | false =>
        have heq : decide ((n, h, r) = (n', h', r')) = true := by
          rw [decide_eq_true_iff]
          by_cases e : (n, h, r) = (n', h', r')
          · exact e
          · rcases lessA_tri e with k | k
            · rw [e1] at k; cases k
            · rw [e2] at k; cases k
        have q1 : Hid (∀ W, Calls Tryd.prog 22 #[.agg #[.string n, .string h, .string r], .agg #[.string n', .string h', .string r']] W fun e w' => e = .returned (.bool false) ∧ Below W.heap.size W w') := Lib.hid (fun W => by
          have k := aless_any n h r n' h' r' W
          rw [show lessA (n, h, r) (n', h', r') = false from e1] at k
          exact k)
        have q2 : Hid (∀ W, Calls Tryd.prog 22 #[.agg #[.string n', .string h', .string r'], .agg #[.string n, .string h, .string r]] W fun e w' => e = .returned (.bool false) ∧ Below W.heap.size W w') := Lib.hid (fun W => by
          have k := aless_any n' h' r' n h r W
          rw [show lessA (n', h', r') (n, h, r) = false from e2] at k
          exact k)
        have q3 : Hid (∀ W, Calls Tryd.prog 24 #[.agg #[.string n, .string h, .string r], .agg #[.string n', .string h', .string r']] W fun e w' => e = .returned (.bool true) ∧ Below W.heap.size W w') := Lib.hid (fun W => by
          have k := asame_any n h r n' h' r' W
          rw [show decide ((n, h, r) = (n', h', r')) = true from heq] at k
          exact k)
        have q4 : Hid (∀ W, Calls Tryd.prog 22 #[.agg #[.string n, .string h, .string r], .agg #[.string n, .string h, .string r]] W fun e w' => e = .returned (.bool false) ∧ Below W.heap.size W w') := Lib.hid (fun W => by
          have k := aless_any n h r n h r W
          rw [show lessA (n, h, r) (n, h, r) = false from lessA_irrefl _] at k
          exact k)
        have hout : ∀ w', Fro wc w' → ((w'.cell? ⟨bx, 0, none⟩ = some (.string n) ∧ w'.cell? ⟨bx, 1, none⟩ = some (.string h) ∧ w'.cell? ⟨bx, 2, none⟩ = some (.string r)) ∧ (w'.cell? ⟨byy, 0, none⟩ = some (.string n') ∧ w'.cell? ⟨byy, 1, none⟩ = some (.string h') ∧ w'.cell? ⟨byy, 2, none⟩ = some (.string r'))) := fun w' hf => ⟨HX.out.call hf, HY.out.call hf⟩
        have hF0 := Fro.draw wc
        go_upto_region 8 with fail
        refine wp_region_held_drew (S := fun w' => (w'.cell? ⟨bx, 0, none⟩ = some (.string n) ∧ w'.cell? ⟨bx, 1, none⟩ = some (.string h) ∧ w'.cell? ⟨bx, 2, none⟩ = some (.string r)) ∧ (w'.cell? ⟨byy, 0, none⟩ = some (.string n') ∧ w'.cell? ⟨byy, 1, none⟩ = some (.string h') ∧ w'.cell? ⟨byy, 2, none⟩ = some (.string r'))) (by kernel_rfl) (hout _ (by assumption)) (fun hHeld => ?_)
        (refine wpAnyH_take (i := 0) (v := ?_) rfl (by kernel_rfl) (by kernel_rfl) (by kernel_rfl) (fun _ _ _ h => h) (Or.inl ⟨by rfl, ?_⟩) (by assumption) ?_; rotate_left 1; (focus (intro wz hz; (try dsimp only at hz); (try simp only [List.getElem_toArray, List.getElem_cons_succ, List.getElem_cons_zero]); go_simp; (try (rw [if_neg (by (try simp only [ByteArray.size_append]); omega)])); try (with_reducible rfl); done)))
        try simp only [Act.put, List.getElem_toArray, List.getElem_cons_succ, List.getElem_cons_zero, List.setIfInBounds_toArray, List.set_cons_zero, List.set_cons_succ]
        (refine wpAnyH_take (i := 1) (v := ?_) rfl (by kernel_rfl) (by kernel_rfl) (by kernel_rfl) (fun _ _ _ h => h) (Or.inl ⟨by rfl, ?_⟩) (by assumption) ?_; rotate_left 1; (focus (intro wz hz; (try dsimp only at hz); (try simp only [List.getElem_toArray, List.getElem_cons_succ, List.getElem_cons_zero]); go_simp; (try (rw [if_neg (by (try simp only [ByteArray.size_append]); omega)])); try (with_reducible rfl); done)))
        try simp only [Act.put, List.getElem_toArray, List.getElem_cons_succ, List.getElem_cons_zero, List.setIfInBounds_toArray, List.set_cons_zero, List.set_cons_succ]
        (refine wpAnyH_take (i := 3) (v := ?_) rfl (by kernel_rfl) (by kernel_rfl) (by kernel_rfl) (fun _ _ _ h => h) (Or.inl ⟨by rfl, ?_⟩) (by assumption) ?_; rotate_left 1; (focus (intro wz hz; (try dsimp only at hz); (try simp only [List.getElem_toArray, List.getElem_cons_succ, List.getElem_cons_zero]); go_simp; (try (rw [if_neg (by (try simp only [ByteArray.size_append]); omega)])); try (with_reducible rfl); done)))
        try simp only [Act.put, List.getElem_toArray, List.getElem_cons_succ, List.getElem_cons_zero, List.setIfInBounds_toArray, List.set_cons_zero, List.set_cons_succ]
        (refine wpAnyH_take (i := 4) (v := ?_) rfl (by kernel_rfl) (by kernel_rfl) (by kernel_rfl) (fun _ _ _ h => h) (Or.inl ⟨by rfl, ?_⟩) (by assumption) ?_; rotate_left 1; (focus (intro wz hz; (try dsimp only at hz); (try simp only [List.getElem_toArray, List.getElem_cons_succ, List.getElem_cons_zero]); go_simp; (try (rw [if_neg (by (try simp only [ByteArray.size_append]); omega)])); try (with_reducible rfl); done)))
        try simp only [Act.put, List.getElem_toArray, List.getElem_cons_succ, List.getElem_cons_zero, List.setIfInBounds_toArray, List.set_cons_zero, List.set_cons_succ]
        (refine wpAnyH_ready (rs := [2]) (by kernel_rfl) (by simp) ?_; refine AllReadyH.cons rfl (fun K hK => ?_) AllReadyH.nil; (try simp only [List.getElem_toArray, List.getElem_cons_succ, List.getElem_cons_zero]); go_simp; go_at_call 22; refine (q1.out _).mono ?_; rintro e wn2 ⟨rfl, hbn2⟩; have hTn2 := Fro.call (by assumption) hbn2; (try (go_wp2_with fail)); refine hK.out _ _ (hout _ (by assumption)) (fun hHeld => ?_); clear hK K)
        try simp only [Act.put, List.getElem_toArray, List.getElem_cons_succ, List.getElem_cons_zero, List.setIfInBounds_toArray, List.set_cons_zero, List.set_cons_succ]
        (refine wpAnyH_ready (rs := [5]) (by kernel_rfl) (by simp) ?_; refine AllReadyH.cons rfl (fun K hK => ?_) AllReadyH.nil; (try simp only [List.getElem_toArray, List.getElem_cons_succ, List.getElem_cons_zero]); go_simp; go_at_call 22; refine (q2.out _).mono ?_; rintro e wn5 ⟨rfl, hbn5⟩; have hTn5 := Fro.call (by assumption) hbn5; (try (go_wp2_with fail)); refine hK.out _ _ (hout _ (by assumption)) (fun hHeld => ?_); clear hK K)
        try simp only [Act.put, List.getElem_toArray, List.getElem_cons_succ, List.getElem_cons_zero, List.setIfInBounds_toArray, List.set_cons_zero, List.set_cons_succ]
        (refine wpAnyH_take (i := 6) (v := ?_) rfl (by kernel_rfl) (by kernel_rfl) (by kernel_rfl) (fun _ _ _ h => h) (Or.inl ⟨by rfl, ?_⟩) (by assumption) ?_; rotate_left 1; (focus (intro wz hz; (try dsimp only at hz); (try simp only [List.getElem_toArray, List.getElem_cons_succ, List.getElem_cons_zero]); go_simp; (try (rw [if_neg (by (try simp only [ByteArray.size_append]); omega)])); try (with_reducible rfl); done)))
        try simp only [Act.put, List.getElem_toArray, List.getElem_cons_succ, List.getElem_cons_zero, List.setIfInBounds_toArray, List.set_cons_zero, List.set_cons_succ]
        (refine wpAnyH_take (i := 7) (v := ?_) rfl (by kernel_rfl) (by kernel_rfl) (by kernel_rfl) (fun _ _ _ h => h) (Or.inl ⟨by rfl, ?_⟩) (by assumption) ?_; rotate_left 1; (focus (intro wz hz; (try dsimp only at hz); (try simp only [List.getElem_toArray, List.getElem_cons_succ, List.getElem_cons_zero]); go_simp; (try (rw [if_neg (by (try simp only [ByteArray.size_append]); omega)])); try (with_reducible rfl); done)))
        try simp only [Act.put, List.getElem_toArray, List.getElem_cons_succ, List.getElem_cons_zero, List.setIfInBounds_toArray, List.set_cons_zero, List.set_cons_succ]
        refine wpAnyH_done (by kernel_rfl) ?_ _
        clear hHeld hout hF0
        have hB3 := Fro.fin hB2 hTn5
        have X1 := Lib.hid (HX.out.call hTn5); have Y1 := Lib.hid (HY.out.call hTn5); have Z1 := Lib.hid (HZ.out.call hTn5)
        clear hTn5 hbn5 hTn2 hbn2 HX HY HZ
        obtain ⟨x0, x1, x2⟩ := id X1.out
        obtain ⟨y0, y1, y2⟩ := id Y1.out
        obtain ⟨z0, z1, z2⟩ := id Z1.out
        go_wp2_with fail
        refine (q3.out _).mono ?_; rintro e w21 ⟨rfl, hb21⟩
        have hB21 := below_call hb21 hB3.size hB3
        have X2 := Lib.hid (X1.out.call hb21); have Y2 := Lib.hid (Y1.out.call hb21); have Z2 := Lib.hid (Z1.out.call hb21)
        clear x0 x1 x2 y0 y1 y2 z0 z1 z2
        obtain ⟨x0, x1, x2⟩ := id X2.out
        obtain ⟨y0, y1, y2⟩ := id Y2.out
        obtain ⟨z0, z1, z2⟩ := id Z2.out
        go_wp2_with fail
        refine (q4.out _).mono ?_; rintro e w22 ⟨rfl, hb22⟩
        have hB22 := below_call hb22 hB21.size hB21
        have X3 := Lib.hid (X2.out.call hb22); have Y3 := Lib.hid (Y2.out.call hb22); have Z3 := Lib.hid (Z2.out.call hb22)
        clear x0 x1 x2 y0 y1 y2 z0 z1 z2
        obtain ⟨x0, x1, x2⟩ := id X3.out
        obtain ⟨y0, y1, y2⟩ := id Y3.out
        obtain ⟨z0, z1, z2⟩ := id Z3.out
        go_wp2_with fail
        refine (aw.out _ hB22).mono ?_; rintro e w40 ⟨rfl, hb40⟩
        go_wp2
        go_ret
        exact ⟨rfl, below_call hb40 hB22.size hB22⟩

set_option maxRecDepth 100000 in
theorem aorder_lifted (os : Os) (started : os.Started) (H : Type) (enc : TypeId × Value → H) :
    ReturnsInHanded {} Tryd.checked os 6 .any (fun w args => (Rows.addrOrderSpec.pre enc Tryd.prog Tryd.f6 Rows.addrOrderRow.domain false w args ∧ laidMetH Tryd.prog laidU8 w) ∧ sizedMet enc Tryd.prog Tryd.f6 (OpenSpec.ofChange Rows.addrOrderSpec) false w args)
      (Rows.addrOrderSpec.post enc Tryd.prog Tryd.f6 false true false false) := by
  refine handed_shape (Pre' := fun w args => (Rows.addrOrderSpec.pre enc Tryd.prog Tryd.f6 Rows.addrOrderRow.domain false w args ∧ (laidMetH Tryd.prog laidU8 w ∧ Maxs w)) ∧ sizedMet enc Tryd.prog Tryd.f6 (OpenSpec.ofChange Rows.addrOrderSpec) false w args) (fun w args hs h => ⟨⟨h.1.1, h.1.2, maxs_of_shape hs⟩, h.2⟩) (fun w args h => ⟨⟨h.1.1, h.1.2.1⟩, h.2⟩) ?_
  refine returnsInHanded_of_change_and (C := Tryd.checked) (X := fun w _ => laidMetH Tryd.prog laidU8 w ∧ Maxs w) (fun _ _ _ hh h => ⟨h.1.of_heap hh, h.2.of_heap hh⟩) own started (by kernel_rfl) Tryd.func6
    (ChangeSpec.witness_shaped (enc := enc) (C := Tryd.checked) (os := os) (X := fun w _ => laidMetH Tryd.prog laidU8 w ∧ Maxs w) false (World.laidAll Tryd.prog os laidU8) #[.agg #[.string ⟨#[]⟩, .string ⟨#[]⟩, .string ⟨#[]⟩], .agg #[.string ⟨#[]⟩, .string ⟨#[]⟩, .string ⟨#[]⟩], .agg #[.string ⟨#[]⟩, .string ⟨#[]⟩, .string ⟨#[]⟩]] 8 (World.laidAll_os _ _ _)
      (World.shaped_of_ZipB (by kernel_rfl) (by kernel_rfl)) (by kernel_rfl) (by kernel_rfl) (by kernel_rfl)
      ⟨by rw [MakeChecks.laidMetH_plain _ _ _ (by kernel_rfl)]; exact laidMet_laidAll _ (by kernel_rfl) (by kernel_rfl), maxs_laid os⟩) ?_
  intro W base args ds gs before hval0 hW _ _ hLM _
  obtain ⟨hL, hM⟩ := hLM
  have hval : ∀ (j : Nat) t v, Tryd.f6.params[j]? = some t → args[j]? = some v → Value.okWide Tryd.prog W .any base t v := hval0
  have hW' := hW
  obtain ⟨p, q, hA0, hV, rfl, hfz, hnd⟩ := hW
  have hA : DataW.TrodAll enc Tryd.prog W 0 (fun _ => true) true Tryd.f6.params.toList args.toList ds p := hA0
  rw [Tryd.params6] at hA hval
  obtain ⟨v0, vs0, d0, ds0, p0, q0, hargs, rfl, rfl, h0, r0⟩ := trodAll_cons hA
  obtain ⟨v1, vs1, d1, ds1, p1, q1, rfl, rfl, rfl, h1, r1⟩ := trodAll_cons r0
  obtain ⟨v2, vs2, d2, ds2, p2, q2, rfl, rfl, rfl, h2, r2⟩ := trodAll_cons r1
  obtain ⟨rfl, rfl, rfl⟩ := trodAll_nil r2
  obtain rfl : args = #[v0, v1, v2] := by cases args; simp_all
  obtain ⟨rfl, rfl⟩ := trodVars_none hV
  obtain ⟨n, h, r, rfl, _, _, _⟩ := open_addr (hval 0 28 v0 rfl rfl) h0
  obtain ⟨n', h', r', rfl, _, _, _⟩ := open_addr (hval 1 28 v1 rfl rfl) h1
  obtain ⟨m, g, q, rfl, _, _, _⟩ := open_addr (hval 2 28 v2 rfl rfl) h2
  refine (aorder_walk n h r n' h' r' m g q W ⟨tabs_of_laid hL, hM⟩).mono fun e W' ⟨he, hb⟩ => ?_
  subst he
  exact ⟨_, rfl, law_post rfl rfl Tryd.underlying4 (by kernel_rfl) rfl hW' hb⟩
theorem aorder_holds : Rows.AddrOrderSaid :=
  OpenClaim.holds_of_wide 6 Tryd.f6 rfl rfl rfl rfl rfl rfl rfl ⟨rfl, rfl, rfl, rfl, rfl⟩ rfl rfl rfl rfl rfl (by kernel_rfl) Tryd.func6 (by kernel_rfl)
    (of_decide_eq_true (by kernel_rfl)) (by unfold Func.isWrapper; first | (rw [if_pos (by decide +kernel)]; kernel_rfl) | (rw [if_neg (by decide +kernel)]; exact ⟨rfl, rfl⟩))
    (fun os started H enc _ => aorder_lifted os started H enc)
theorem aorder_card : Rows.AddrOrderCardSaid :=
  Claim7.holds_tied_plain_at .later [] [.data, .pinned] true Rows.addrOrderCard.stood.harness false aorder_holds (fun _ h => by cases h) (by kernel_rfl) (fun _ h => by cases h) addrOrder_row_tie rfl ⟨rfl, rfl⟩ (by kernel_rfl) rfl
    (fun f fn hf hfn => by
      obtain rfl : f = 6 := Option.some.inj ((show Tryd.prog.funcNamed "callboy/callboylaw09.AddrOrder" = some 6 by kernel_rfl).symm.trans hf) |>.symm
      obtain rfl : fn = Tryd.f6 := (Option.some.inj (Tryd.func6.symm.trans hfn)).symm
      exact ⟨by kernel_rfl, fun j t ht => by
        rw [Tryd.params6] at ht
        have hm : t ∈ [28, 28, 28] := by simpa using Array.mem_of_getElem? ht
        have hall : ([28, 28, 28].all fun u => !Tryd.prog.wantsStandIn u) = true := by kernel_rfl
        exact (show Tryd.prog.wantsStandIn t = false by simpa using List.all_eq_true.1 hall t hm)⟩)
    (by kernel_rfl)
end Go.Proofs.YtngaklciclbofaaDoor
