/- AddrBack: what is printed is parsed as it was; what is parsed is printed so that it is parsed as the same; its bare one is bare, and stays so: the statement holds for every input. No condition. -/
import Derived.Test.YtngaklciclbofaaDoorLawOpen9
import Derived.Test.YtngaklciclbofaaDoorLawMax
import Derived.Test.YtngaklciclbofaaDoorA9W
import Derived.Test.YtngaklciclbofaaDoorA9N
namespace Go.Proofs.YtngaklciclbofaaDoor
open Go.RowKit Go.ChangeShapes Go.WideShapes Go.ChangeAt
set_option linter.unusedVariables false
set_option linter.unusedSimpArgs false

/-- what an address that may be is printed as, and parsed again -/
theorem first_yes {n h r : ByteArray} (w : World) (hT : Tabs9 w) (H : chkA n h r = 0) (l1 : n.size ≤ 1000) (l2 : h.size ≤ 1000) (l3 : r.size ≤ 1000) :
    ∃ J : ByteArray, (∀ W, Below w.heap.size w W → Calls Tryd.prog 18 #[adV n h r] W fun e w' => e = .returned (.tuple #[.string J, .int .i64 0]) ∧ Below W.heap.size W w') ∧
      (∀ W, Below w.heap.size w W → Calls Tryd.prog 8 #[.string J] W fun e w' => e = .returned (.tuple #[adV n h r, .int .i64 0]) ∧ Below W.heap.size W w') ∧
      (∀ W, Below w.heap.size w W → Calls Tryd.prog 20 #[adV n h r] W fun e w' => e = .returned (.int .i64 0) ∧ Below W.heap.size W w') := by
  obtain ⟨k0, k1, k2, k3⟩ := par_join H
  have hz := join_size n h r
  refine ⟨joinT n h r, fun W hb => ?_, fun W hb => ?_, fun W hb => ?_⟩
  · have k := aprint_any n h r W (hT.call hb) (by omega) (by omega) (by omega)
    rw [pri_ok H, H] at k
    exact k
  · have k := aparse_any (joinT n h r) W (hT.call hb) (by omega)
    unfold parV at k
    rw [k0, me_yes, me_yes, me_yes, k1, k2, k3] at k
    exact k
  · have k := acheck_any n h r W (hT.call hb)
    rw [H] at k
    exact k
theorem first_no {n h r : ByteArray} (w : World) (hT : Tabs9 w) (H : ¬ chkA n h r = 0) (l1 : n.size ≤ 1000) (l2 : h.size ≤ 1000) (l3 : r.size ≤ 1000) :
    ∃ (E E2 : Int) (y0 y1 y2 : ByteArray), ¬ E = 0 ∧ (∀ W, Below w.heap.size w W → Calls Tryd.prog 18 #[adV n h r] W fun e w' => e = .returned (.tuple #[.string ⟨#[]⟩, .int .i64 E]) ∧ Below W.heap.size W w') ∧
      (∀ W, Below w.heap.size w W → Calls Tryd.prog 8 #[.string ⟨#[]⟩] W fun e w' => e = .returned (.tuple #[adV y0 y1 y2, .int .i64 E2]) ∧ Below W.heap.size W w') ∧
      (∀ W, Below w.heap.size w W → Calls Tryd.prog 20 #[adV n h r] W fun e w' => e = .returned (.int .i64 E) ∧ Below W.heap.size W w') := by
  refine ⟨chkA n h r, _, _, _, _, H, fun W hb => ?_, fun W hb => aparse_any ⟨#[]⟩ W (hT.call hb) (by decide), fun W hb => acheck_any n h r W (hT.call hb)⟩
  have k := aprint_any n h r W (hT.call hb) (by omega) (by omega) (by omega)
  unfold priT at k
  rw [me_no H] at k
  exact k
/-- what is told of a text that is an address -/
theorem then_yes {s : ByteArray} (w : World) (hT : Tabs9 w) (H : parE s = 0) (l1 : s.size ≤ 1000) :
    ∃ a b c U B : ByteArray, (B.size : Int) ≤ 33 ∧
      (∀ W, Below w.heap.size w W → Calls Tryd.prog 8 #[.string s] W fun e w' => e = .returned (.tuple #[adV a b c, .int .i64 0]) ∧ Below W.heap.size W w') ∧
      (∀ W, Below w.heap.size w W → Calls Tryd.prog 18 #[adV a b c] W fun e w' => e = .returned (.tuple #[.string U, .int .i64 0]) ∧ Below W.heap.size W w') ∧
      (∀ W, Below w.heap.size w W → Calls Tryd.prog 8 #[.string U] W fun e w' => e = .returned (.tuple #[adV a b c, .int .i64 0]) ∧ Below W.heap.size W w') ∧
      (∀ W, Below w.heap.size w W → Calls Tryd.prog 10 #[.string s] W fun e w' => e = .returned (.tuple #[.string B, .int .i64 0]) ∧ Below W.heap.size W w') ∧
      (∀ W, Below w.heap.size w W → Calls Tryd.prog 10 #[.string B] W fun e w' => e = .returned (.tuple #[.string B, .int .i64 0]) ∧ Below W.heap.size W w') ∧
      (∀ W, Below w.heap.size w W → Calls Tryd.prog 12 #[.string B, .string c] W fun e w' => e = .returned (.tuple #[.string U, .int .i64 0]) ∧ Below W.heap.size W w') ∧
      (∀ W, Below w.heap.size w W → Calls Tryd.prog 14 #[.string B] W fun e w' => e = .returned (.bool true) ∧ Below W.heap.size W w') := by
  have hc := par_chk H
  obtain ⟨z1, z2, _⟩ := chk_ok hc
  obtain ⟨k0, k1, k2, k3⟩ := par_join hc
  obtain ⟨m1, m2⟩ := bare_ok H
  obtain ⟨g0, g1, g2, g3⟩ := bare_bare hc
  obtain ⟨f1, f2⟩ := full_ok hc
  have hz := join_size (nmP s) (hsP s) (rsP s)
  have hzb := bare_size (nmP s) (hsP s)
  refine ⟨nmP s, hsP s, rsP s, joinT (nmP s) (hsP s) (rsP s), joinT (nmP s) (hsP s) ⟨#[]⟩, by omega, fun W hb => ?_, fun W hb => ?_, fun W hb => ?_, fun W hb => ?_, fun W hb => ?_, fun W hb => ?_, fun W hb => ?_⟩
  · have k := aparse_any s W (hT.call hb) (by omega)
    unfold parV at k
    rw [H, me_yes, me_yes, me_yes] at k
    exact k
  · have k := aprint_any (nmP s) (hsP s) (rsP s) W (hT.call hb) (by omega) (by omega) (by omega)
    rw [pri_ok hc, hc] at k
    exact k
  · have k := aparse_any (joinT (nmP s) (hsP s) (rsP s)) W (hT.call hb) (by omega)
    unfold parV at k
    rw [k0, me_yes, me_yes, me_yes, k1, k2, k3] at k
    exact k
  · have k := abare_any s W (hT.call hb) (by omega)
    rw [m1, m2] at k
    exact k
  · have k := abare_any (joinT (nmP s) (hsP s) ⟨#[]⟩) W (hT.call hb) (by omega)
    rw [g1, g2] at k
    exact k
  · have k := afull_any (joinT (nmP s) (hsP s) ⟨#[]⟩) (rsP s) W (hT.call hb) (by omega) (by omega)
    rw [f1, f2] at k
    exact k
  · have k := aisbare_any (joinT (nmP s) (hsP s) ⟨#[]⟩) W (hT.call hb) (by omega)
    rw [g3] at k
    exact k
theorem then_no {s : ByteArray} (w : World) (hT : Tabs9 w) (H : ¬ parE s = 0) (l1 : s.size ≤ 1000) :
    ∃ E : Int, ¬ E = 0 ∧ (∀ W, Below w.heap.size w W → Calls Tryd.prog 8 #[.string s] W fun e w' => e = .returned (.tuple #[adV ⟨#[]⟩ ⟨#[]⟩ ⟨#[]⟩, .int .i64 E]) ∧ Below W.heap.size W w') := by
  refine ⟨parE s, H, fun W hb => ?_⟩
  have k := aparse_any s W (hT.call hb) (by omega)
  unfold parV at k
  rw [me_no H, me_no H, me_no H] at k
  exact k

set_option maxRecDepth 100000 in
set_option maxHeartbeats 32000000 in
theorem aback_walk (n h r s : ByteArray) (w : World) (hT : Tabs9 w) :
    Calls Tryd.prog 5 #[adV n h r, .string s] w fun e w' => e = .returned (.bool true) ∧ Below w.heap.size w w' := by
  have aw : Hid (∀ W, Below w.heap.size w W → Calls Tryd.prog 7 #[] W fun e w' => e = .returned (.bool true) ∧ Below W.heap.size W w') := Lib.hid (fun W hb => awake_any W (hT.call hb))
  by_cases l1 : (50 : Int) < n.size
  · simp only [adV]
    go_enter Tryd.func5, Tryd.ntmps5
    go_wp2_with fail
    refine (aw.out _ (by (repeat (first | (with_reducible exact Below.refl _ _) | ((with_reducible refine below_alloc ?_ ?_ _); · (first | omega | (simp; done) | (simp; omega))) | ((with_reducible refine below_setCell ?_ ?_ _); · (first | omega | (simp; done) | (simp; omega))) | (with_reducible refine Below.drew ?_) | (with_reducible refine below_drewN ?_ _) | ((with_reducible refine below_call (by assumption) ?_ ?_); · (first | omega | (simp; done) | (simp; omega))))))).mono ?_; rintro e w1 ⟨rfl, hb1⟩
    go_wp2
    go_ret
    exact ⟨rfl, by (repeat (first | (with_reducible exact Below.refl _ _) | ((with_reducible refine below_alloc ?_ ?_ _); · (first | omega | (simp; done) | (simp; omega))) | ((with_reducible refine below_setCell ?_ ?_ _); · (first | omega | (simp; done) | (simp; omega))) | (with_reducible refine Below.drew ?_) | (with_reducible refine below_drewN ?_ _) | ((with_reducible refine below_call (by assumption) ?_ ?_); · (first | omega | (simp; done) | (simp; omega)))))⟩
  by_cases l2 : (50 : Int) < h.size
  · simp only [adV]
    go_enter Tryd.func5, Tryd.ntmps5
    go_wp2_with fail
    refine (aw.out _ (by (repeat (first | (with_reducible exact Below.refl _ _) | ((with_reducible refine below_alloc ?_ ?_ _); · (first | omega | (simp; done) | (simp; omega))) | ((with_reducible refine below_setCell ?_ ?_ _); · (first | omega | (simp; done) | (simp; omega))) | (with_reducible refine Below.drew ?_) | (with_reducible refine below_drewN ?_ _) | ((with_reducible refine below_call (by assumption) ?_ ?_); · (first | omega | (simp; done) | (simp; omega))))))).mono ?_; rintro e w1 ⟨rfl, hb1⟩
    go_wp2
    go_ret
    exact ⟨rfl, by (repeat (first | (with_reducible exact Below.refl _ _) | ((with_reducible refine below_alloc ?_ ?_ _); · (first | omega | (simp; done) | (simp; omega))) | ((with_reducible refine below_setCell ?_ ?_ _); · (first | omega | (simp; done) | (simp; omega))) | (with_reducible refine Below.drew ?_) | (with_reducible refine below_drewN ?_ _) | ((with_reducible refine below_call (by assumption) ?_ ?_); · (first | omega | (simp; done) | (simp; omega)))))⟩
  by_cases l3 : (50 : Int) < r.size
  · simp only [adV]
    go_enter Tryd.func5, Tryd.ntmps5
    go_wp2_with fail
    refine (aw.out _ (by (repeat (first | (with_reducible exact Below.refl _ _) | ((with_reducible refine below_alloc ?_ ?_ _); · (first | omega | (simp; done) | (simp; omega))) | ((with_reducible refine below_setCell ?_ ?_ _); · (first | omega | (simp; done) | (simp; omega))) | (with_reducible refine Below.drew ?_) | (with_reducible refine below_drewN ?_ _) | ((with_reducible refine below_call (by assumption) ?_ ?_); · (first | omega | (simp; done) | (simp; omega))))))).mono ?_; rintro e w1 ⟨rfl, hb1⟩
    go_wp2
    go_ret
    exact ⟨rfl, by (repeat (first | (with_reducible exact Below.refl _ _) | ((with_reducible refine below_alloc ?_ ?_ _); · (first | omega | (simp; done) | (simp; omega))) | ((with_reducible refine below_setCell ?_ ?_ _); · (first | omega | (simp; done) | (simp; omega))) | (with_reducible refine Below.drew ?_) | (with_reducible refine below_drewN ?_ _) | ((with_reducible refine below_call (by assumption) ?_ ?_); · (first | omega | (simp; done) | (simp; omega)))))⟩
  by_cases l4 : (100 : Int) < s.size
  · simp only [adV]
    go_enter Tryd.func5, Tryd.ntmps5
    go_wp2_with fail
    refine (aw.out _ (by (repeat (first | (with_reducible exact Below.refl _ _) | ((with_reducible refine below_alloc ?_ ?_ _); · (first | omega | (simp; done) | (simp; omega))) | ((with_reducible refine below_setCell ?_ ?_ _); · (first | omega | (simp; done) | (simp; omega))) | (with_reducible refine Below.drew ?_) | (with_reducible refine below_drewN ?_ _) | ((with_reducible refine below_call (by assumption) ?_ ?_); · (first | omega | (simp; done) | (simp; omega))))))).mono ?_; rintro e w1 ⟨rfl, hb1⟩
    go_wp2
    go_ret
    exact ⟨rfl, by (repeat (first | (with_reducible exact Below.refl _ _) | ((with_reducible refine below_alloc ?_ ?_ _); · (first | omega | (simp; done) | (simp; omega))) | ((with_reducible refine below_setCell ?_ ?_ _); · (first | omega | (simp; done) | (simp; omega))) | (with_reducible refine Below.drew ?_) | (with_reducible refine below_drewN ?_ _) | ((with_reducible refine below_call (by assumption) ?_ ?_); · (first | omega | (simp; done) | (simp; omega)))))⟩
  by_cases H0 : chkA n h r = 0
  · obtain ⟨J, p1', p2', p3'⟩ := first_yes w hT H0 (by omega) (by omega) (by omega)
    have p1 := Lib.hid p1'; have p2 := Lib.hid p2'; have p3 := Lib.hid p3'; clear p1' p2' p3'
    by_cases H1 : parE s = 0
    · obtain ⟨a, b, c, U, B, hB33, c1', c2', c3', c4', c5', c6', c7'⟩ := then_yes w hT H1 (by omega)
      have c1 := Lib.hid c1'; have c2 := Lib.hid c2'; have c3 := Lib.hid c3'; have c4 := Lib.hid c4'; have c5 := Lib.hid c5'; have c6 := Lib.hid c6'; have c7 := Lib.hid c7'; clear c1' c2' c3' c4' c5' c6' c7'
      clear H0 H1
      simp only [adV] at *
      go_enter Tryd.func5, Tryd.ntmps5
      go_wp2_with fail
      refine (p1.out _ (by (repeat (first | (with_reducible exact Below.refl _ _) | ((with_reducible refine below_alloc ?_ ?_ _); · (first | omega | (simp; done) | (simp; omega))) | ((with_reducible refine below_setCell ?_ ?_ _); · (first | omega | (simp; done) | (simp; omega))) | (with_reducible refine Below.drew ?_) | (with_reducible refine below_drewN ?_ _) | ((with_reducible refine below_call (by assumption) ?_ ?_); · (first | omega | (simp; done) | (simp; omega))))))).mono ?_; rintro e w1 ⟨rfl, hb1⟩
      have hz1 := hb1.size
      have HB1 : Below w.heap.size w w1 := by (repeat (first | (with_reducible exact Below.refl _ _) | ((with_reducible refine below_alloc ?_ ?_ _); · (first | omega | (simp; done) | (simp; omega))) | ((with_reducible refine below_setCell ?_ ?_ _); · (first | omega | (simp; done) | (simp; omega))) | (with_reducible refine Below.drew ?_) | (with_reducible refine below_drewN ?_ _) | ((with_reducible refine below_call (by assumption) ?_ ?_); · (first | omega | (simp; done) | (simp; omega)))))
      have X : Hid (Bx3 w1 (w.heap.size + 1) n h r) := Lib.hid (Bx3.call (by simp [Bx3, go_sem]) hb1)
      have lx := X.out.lt
      obtain ⟨x0, x1, x2⟩ := id X.out
      go_wp2_with fail
      clear lx x0 x1 x2
      refine (p2.out _ (HB1.trans ((show Below w1.heap.size w1 _ by (repeat (first | (with_reducible exact Below.refl _ _) | ((with_reducible refine below_alloc ?_ ?_ _); · (first | omega | (simp; done) | (simp; omega))) | ((with_reducible refine below_setCell ?_ ?_ _); · (first | omega | (simp; done) | (simp; omega))) | (with_reducible refine Below.drew ?_) | (with_reducible refine below_drewN ?_ _) | ((with_reducible refine below_call (by assumption) ?_ ?_); · (first | omega | (simp; done) | (simp; omega)))))).mono HB1.size))).mono ?_; rintro e w2 ⟨rfl, hb2⟩
      have hz2 := hb2.size
      have hg2 : Below w1.heap.size w1 w2 := by (repeat (first | (with_reducible exact Below.refl _ _) | ((with_reducible refine below_alloc ?_ ?_ _); · (first | omega | (simp; done) | (simp; omega))) | ((with_reducible refine below_setCell ?_ ?_ _); · (first | omega | (simp; done) | (simp; omega))) | (with_reducible refine Below.drew ?_) | (with_reducible refine below_drewN ?_ _) | ((with_reducible refine below_call (by assumption) ?_ ?_); · (first | omega | (simp; done) | (simp; omega)))))
      have HB2 := HB1.trans (hg2.mono HB1.size)
      have X := Lib.hid (X.out.call hg2)
      have lx := X.out.lt
      obtain ⟨x0, x1, x2⟩ := id X.out
      go_wp2_with fail
      clear lx x0 x1 x2
      refine (p3.out _ (HB2.trans ((show Below w2.heap.size w2 _ by (repeat (first | (with_reducible exact Below.refl _ _) | ((with_reducible refine below_alloc ?_ ?_ _); · (first | omega | (simp; done) | (simp; omega))) | ((with_reducible refine below_setCell ?_ ?_ _); · (first | omega | (simp; done) | (simp; omega))) | (with_reducible refine Below.drew ?_) | (with_reducible refine below_drewN ?_ _) | ((with_reducible refine below_call (by assumption) ?_ ?_); · (first | omega | (simp; done) | (simp; omega)))))).mono HB2.size))).mono ?_; rintro e w3 ⟨rfl, hb3⟩
      have hz3 := hb3.size
      have hg3 : Below w2.heap.size w2 w3 := by (repeat (first | (with_reducible exact Below.refl _ _) | ((with_reducible refine below_alloc ?_ ?_ _); · (first | omega | (simp; done) | (simp; omega))) | ((with_reducible refine below_setCell ?_ ?_ _); · (first | omega | (simp; done) | (simp; omega))) | (with_reducible refine Below.drew ?_) | (with_reducible refine below_drewN ?_ _) | ((with_reducible refine below_call (by assumption) ?_ ?_); · (first | omega | (simp; done) | (simp; omega)))))
      have HB3 := HB2.trans (hg3.mono HB2.size)
      have X := Lib.hid (X.out.call hg3)
      have Y : Hid (Bx3 w3 (w2.heap.size) n h r) := Lib.hid (Bx3.call (by simp [Bx3, go_sem]) hb3)
      have lx := X.out.lt
      obtain ⟨x0, x1, x2⟩ := id X.out
      have ly := Y.out.lt
      obtain ⟨y0, y1, y2⟩ := id Y.out
      go_wp2_with fail
      clear lx x0 x1 x2 ly y0 y1 y2
      refine (c1.out _ (HB3.trans ((show Below w3.heap.size w3 _ by (repeat (first | (with_reducible exact Below.refl _ _) | ((with_reducible refine below_alloc ?_ ?_ _); · (first | omega | (simp; done) | (simp; omega))) | ((with_reducible refine below_setCell ?_ ?_ _); · (first | omega | (simp; done) | (simp; omega))) | (with_reducible refine Below.drew ?_) | (with_reducible refine below_drewN ?_ _) | ((with_reducible refine below_call (by assumption) ?_ ?_); · (first | omega | (simp; done) | (simp; omega)))))).mono HB3.size))).mono ?_; rintro e w4 ⟨rfl, hb4⟩
      have hz4 := hb4.size
      have hg4 : Below w3.heap.size w3 w4 := by (repeat (first | (with_reducible exact Below.refl _ _) | ((with_reducible refine below_alloc ?_ ?_ _); · (first | omega | (simp; done) | (simp; omega))) | ((with_reducible refine below_setCell ?_ ?_ _); · (first | omega | (simp; done) | (simp; omega))) | (with_reducible refine Below.drew ?_) | (with_reducible refine below_drewN ?_ _) | ((with_reducible refine below_call (by assumption) ?_ ?_); · (first | omega | (simp; done) | (simp; omega)))))
      have HB4 := HB3.trans (hg4.mono HB3.size)
      have X := Lib.hid (X.out.call hg4)
      have Y := Lib.hid (Y.out.call hg4)
      have lx := X.out.lt
      obtain ⟨x0, x1, x2⟩ := id X.out
      have ly := Y.out.lt
      obtain ⟨y0, y1, y2⟩ := id Y.out
      go_wp2_with fail
      clear lx x0 x1 x2 ly y0 y1 y2
      refine (c2.out _ (HB4.trans ((show Below w4.heap.size w4 _ by (repeat (first | (with_reducible exact Below.refl _ _) | ((with_reducible refine below_alloc ?_ ?_ _); · (first | omega | (simp; done) | (simp; omega))) | ((with_reducible refine below_setCell ?_ ?_ _); · (first | omega | (simp; done) | (simp; omega))) | (with_reducible refine Below.drew ?_) | (with_reducible refine below_drewN ?_ _) | ((with_reducible refine below_call (by assumption) ?_ ?_); · (first | omega | (simp; done) | (simp; omega)))))).mono HB4.size))).mono ?_; rintro e w5 ⟨rfl, hb5⟩
      have hz5 := hb5.size
      have hg5 : Below w4.heap.size w4 w5 := by (repeat (first | (with_reducible exact Below.refl _ _) | ((with_reducible refine below_alloc ?_ ?_ _); · (first | omega | (simp; done) | (simp; omega))) | ((with_reducible refine below_setCell ?_ ?_ _); · (first | omega | (simp; done) | (simp; omega))) | (with_reducible refine Below.drew ?_) | (with_reducible refine below_drewN ?_ _) | ((with_reducible refine below_call (by assumption) ?_ ?_); · (first | omega | (simp; done) | (simp; omega)))))
      have HB5 := HB4.trans (hg5.mono HB4.size)
      have X := Lib.hid (X.out.call hg5)
      have Y := Lib.hid (Y.out.call hg5)
      have Z : Hid (Bx3 w5 (w4.heap.size) a b c) := Lib.hid (Bx3.call (by simp [Bx3, go_sem]) hb5)
      have lx := X.out.lt
      obtain ⟨x0, x1, x2⟩ := id X.out
      have ly := Y.out.lt
      obtain ⟨y0, y1, y2⟩ := id Y.out
      have lz := Z.out.lt
      obtain ⟨z0, z1, z2⟩ := id Z.out
      go_wp2_with fail
      clear lx x0 x1 x2 ly y0 y1 y2 lz z0 z1 z2
      refine (c3.out _ (HB5.trans ((show Below w5.heap.size w5 _ by (repeat (first | (with_reducible exact Below.refl _ _) | ((with_reducible refine below_alloc ?_ ?_ _); · (first | omega | (simp; done) | (simp; omega))) | ((with_reducible refine below_setCell ?_ ?_ _); · (first | omega | (simp; done) | (simp; omega))) | (with_reducible refine Below.drew ?_) | (with_reducible refine below_drewN ?_ _) | ((with_reducible refine below_call (by assumption) ?_ ?_); · (first | omega | (simp; done) | (simp; omega)))))).mono HB5.size))).mono ?_; rintro e w6 ⟨rfl, hb6⟩
      have hz6 := hb6.size
      have hg6 : Below w5.heap.size w5 w6 := by (repeat (first | (with_reducible exact Below.refl _ _) | ((with_reducible refine below_alloc ?_ ?_ _); · (first | omega | (simp; done) | (simp; omega))) | ((with_reducible refine below_setCell ?_ ?_ _); · (first | omega | (simp; done) | (simp; omega))) | (with_reducible refine Below.drew ?_) | (with_reducible refine below_drewN ?_ _) | ((with_reducible refine below_call (by assumption) ?_ ?_); · (first | omega | (simp; done) | (simp; omega)))))
      have HB6 := HB5.trans (hg6.mono HB5.size)
      have X := Lib.hid (X.out.call hg6)
      have Y := Lib.hid (Y.out.call hg6)
      have Z := Lib.hid (Z.out.call hg6)
      have lx := X.out.lt
      obtain ⟨x0, x1, x2⟩ := id X.out
      have ly := Y.out.lt
      obtain ⟨y0, y1, y2⟩ := id Y.out
      have lz := Z.out.lt
      obtain ⟨z0, z1, z2⟩ := id Z.out
      go_wp2_with fail
      clear lx x0 x1 x2 ly y0 y1 y2 lz z0 z1 z2
      refine (c4.out _ (HB6.trans ((show Below w6.heap.size w6 _ by (repeat (first | (with_reducible exact Below.refl _ _) | ((with_reducible refine below_alloc ?_ ?_ _); · (first | omega | (simp; done) | (simp; omega))) | ((with_reducible refine below_setCell ?_ ?_ _); · (first | omega | (simp; done) | (simp; omega))) | (with_reducible refine Below.drew ?_) | (with_reducible refine below_drewN ?_ _) | ((with_reducible refine below_call (by assumption) ?_ ?_); · (first | omega | (simp; done) | (simp; omega)))))).mono HB6.size))).mono ?_; rintro e w7 ⟨rfl, hb7⟩
      have hz7 := hb7.size
      have hg7 : Below w6.heap.size w6 w7 := by (repeat (first | (with_reducible exact Below.refl _ _) | ((with_reducible refine below_alloc ?_ ?_ _); · (first | omega | (simp; done) | (simp; omega))) | ((with_reducible refine below_setCell ?_ ?_ _); · (first | omega | (simp; done) | (simp; omega))) | (with_reducible refine Below.drew ?_) | (with_reducible refine below_drewN ?_ _) | ((with_reducible refine below_call (by assumption) ?_ ?_); · (first | omega | (simp; done) | (simp; omega)))))
      have HB7 := HB6.trans (hg7.mono HB6.size)
      have X := Lib.hid (X.out.call hg7)
      have Y := Lib.hid (Y.out.call hg7)
      have Z := Lib.hid (Z.out.call hg7)
      have V : Hid (Bx3 w7 (w6.heap.size) a b c) := Lib.hid (Bx3.call (by simp [Bx3, go_sem]) hb7)
      have lx := X.out.lt
      obtain ⟨x0, x1, x2⟩ := id X.out
      have ly := Y.out.lt
      obtain ⟨y0, y1, y2⟩ := id Y.out
      have lz := Z.out.lt
      obtain ⟨z0, z1, z2⟩ := id Z.out
      have lv := V.out.lt
      obtain ⟨v0, v1, v2⟩ := id V.out
      go_wp2_with fail
      clear lx x0 x1 x2 ly y0 y1 y2 lz z0 z1 z2 lv v0 v1 v2
      refine (c5.out _ (HB7.trans ((show Below w7.heap.size w7 _ by (repeat (first | (with_reducible exact Below.refl _ _) | ((with_reducible refine below_alloc ?_ ?_ _); · (first | omega | (simp; done) | (simp; omega))) | ((with_reducible refine below_setCell ?_ ?_ _); · (first | omega | (simp; done) | (simp; omega))) | (with_reducible refine Below.drew ?_) | (with_reducible refine below_drewN ?_ _) | ((with_reducible refine below_call (by assumption) ?_ ?_); · (first | omega | (simp; done) | (simp; omega)))))).mono HB7.size))).mono ?_; rintro e w8 ⟨rfl, hb8⟩
      have hz8 := hb8.size
      have hg8 : Below w7.heap.size w7 w8 := by (repeat (first | (with_reducible exact Below.refl _ _) | ((with_reducible refine below_alloc ?_ ?_ _); · (first | omega | (simp; done) | (simp; omega))) | ((with_reducible refine below_setCell ?_ ?_ _); · (first | omega | (simp; done) | (simp; omega))) | (with_reducible refine Below.drew ?_) | (with_reducible refine below_drewN ?_ _) | ((with_reducible refine below_call (by assumption) ?_ ?_); · (first | omega | (simp; done) | (simp; omega)))))
      have HB8 := HB7.trans (hg8.mono HB7.size)
      have X := Lib.hid (X.out.call hg8)
      have Y := Lib.hid (Y.out.call hg8)
      have Z := Lib.hid (Z.out.call hg8)
      have V := Lib.hid (V.out.call hg8)
      have lx := X.out.lt
      obtain ⟨x0, x1, x2⟩ := id X.out
      have ly := Y.out.lt
      obtain ⟨y0, y1, y2⟩ := id Y.out
      have lz := Z.out.lt
      obtain ⟨z0, z1, z2⟩ := id Z.out
      have lv := V.out.lt
      obtain ⟨v0, v1, v2⟩ := id V.out
      go_wp2_with fail
      clear lx x0 x1 x2 ly y0 y1 y2 lz z0 z1 z2 lv v0 v1 v2
      refine (c6.out _ (HB8.trans ((show Below w8.heap.size w8 _ by (repeat (first | (with_reducible exact Below.refl _ _) | ((with_reducible refine below_alloc ?_ ?_ _); · (first | omega | (simp; done) | (simp; omega))) | ((with_reducible refine below_setCell ?_ ?_ _); · (first | omega | (simp; done) | (simp; omega))) | (with_reducible refine Below.drew ?_) | (with_reducible refine below_drewN ?_ _) | ((with_reducible refine below_call (by assumption) ?_ ?_); · (first | omega | (simp; done) | (simp; omega)))))).mono HB8.size))).mono ?_; rintro e w9 ⟨rfl, hb9⟩
      have hz9 := hb9.size
      have hg9 : Below w8.heap.size w8 w9 := by (repeat (first | (with_reducible exact Below.refl _ _) | ((with_reducible refine below_alloc ?_ ?_ _); · (first | omega | (simp; done) | (simp; omega))) | ((with_reducible refine below_setCell ?_ ?_ _); · (first | omega | (simp; done) | (simp; omega))) | (with_reducible refine Below.drew ?_) | (with_reducible refine below_drewN ?_ _) | ((with_reducible refine below_call (by assumption) ?_ ?_); · (first | omega | (simp; done) | (simp; omega)))))
      have HB9 := HB8.trans (hg9.mono HB8.size)
      have X := Lib.hid (X.out.call hg9)
      have Y := Lib.hid (Y.out.call hg9)
      have Z := Lib.hid (Z.out.call hg9)
      have V := Lib.hid (V.out.call hg9)
      have lx := X.out.lt
      obtain ⟨x0, x1, x2⟩ := id X.out
      have ly := Y.out.lt
      obtain ⟨y0, y1, y2⟩ := id Y.out
      have lz := Z.out.lt
      obtain ⟨z0, z1, z2⟩ := id Z.out
      have lv := V.out.lt
      obtain ⟨v0, v1, v2⟩ := id V.out
      go_wp2_with fail
      clear lx x0 x1 x2 ly y0 y1 y2 lz z0 z1 z2 lv v0 v1 v2
      refine (c7.out _ (HB9.trans ((show Below w9.heap.size w9 _ by (repeat (first | (with_reducible exact Below.refl _ _) | ((with_reducible refine below_alloc ?_ ?_ _); · (first | omega | (simp; done) | (simp; omega))) | ((with_reducible refine below_setCell ?_ ?_ _); · (first | omega | (simp; done) | (simp; omega))) | (with_reducible refine Below.drew ?_) | (with_reducible refine below_drewN ?_ _) | ((with_reducible refine below_call (by assumption) ?_ ?_); · (first | omega | (simp; done) | (simp; omega)))))).mono HB9.size))).mono ?_; rintro e w10 ⟨rfl, hb10⟩
      have hz10 := hb10.size
      have hg10 : Below w9.heap.size w9 w10 := by (repeat (first | (with_reducible exact Below.refl _ _) | ((with_reducible refine below_alloc ?_ ?_ _); · (first | omega | (simp; done) | (simp; omega))) | ((with_reducible refine below_setCell ?_ ?_ _); · (first | omega | (simp; done) | (simp; omega))) | (with_reducible refine Below.drew ?_) | (with_reducible refine below_drewN ?_ _) | ((with_reducible refine below_call (by assumption) ?_ ?_); · (first | omega | (simp; done) | (simp; omega)))))
      have HB10 := HB9.trans (hg10.mono HB9.size)
      have X := Lib.hid (X.out.call hg10)
      have Y := Lib.hid (Y.out.call hg10)
      have Z := Lib.hid (Z.out.call hg10)
      have V := Lib.hid (V.out.call hg10)
      have lx := X.out.lt
      obtain ⟨x0, x1, x2⟩ := id X.out
      have ly := Y.out.lt
      obtain ⟨y0, y1, y2⟩ := id Y.out
      have lz := Z.out.lt
      obtain ⟨z0, z1, z2⟩ := id Z.out
      have lv := V.out.lt
      obtain ⟨v0, v1, v2⟩ := id V.out
      go_wp2_with fail
      clear lx x0 x1 x2 ly y0 y1 y2 lz z0 z1 z2 lv v0 v1 v2
      refine (aw.out _ (HB10.trans ((show Below w10.heap.size w10 _ by (repeat (first | (with_reducible exact Below.refl _ _) | ((with_reducible refine below_alloc ?_ ?_ _); · (first | omega | (simp; done) | (simp; omega))) | ((with_reducible refine below_setCell ?_ ?_ _); · (first | omega | (simp; done) | (simp; omega))) | (with_reducible refine Below.drew ?_) | (with_reducible refine below_drewN ?_ _) | ((with_reducible refine below_call (by assumption) ?_ ?_); · (first | omega | (simp; done) | (simp; omega)))))).mono HB10.size))).mono ?_; rintro e w11 ⟨rfl, hb11⟩
      have hz11 := hb11.size
      have hg11 : Below w10.heap.size w10 w11 := by (repeat (first | (with_reducible exact Below.refl _ _) | ((with_reducible refine below_alloc ?_ ?_ _); · (first | omega | (simp; done) | (simp; omega))) | ((with_reducible refine below_setCell ?_ ?_ _); · (first | omega | (simp; done) | (simp; omega))) | (with_reducible refine Below.drew ?_) | (with_reducible refine below_drewN ?_ _) | ((with_reducible refine below_call (by assumption) ?_ ?_); · (first | omega | (simp; done) | (simp; omega)))))
      have HB11 := HB10.trans (hg11.mono HB10.size)
      have X := Lib.hid (X.out.call hg11)
      have Y := Lib.hid (Y.out.call hg11)
      have Z := Lib.hid (Z.out.call hg11)
      have V := Lib.hid (V.out.call hg11)
      have lx := X.out.lt
      obtain ⟨x0, x1, x2⟩ := id X.out
      have ly := Y.out.lt
      obtain ⟨y0, y1, y2⟩ := id Y.out
      have lz := Z.out.lt
      obtain ⟨z0, z1, z2⟩ := id Z.out
      have lv := V.out.lt
      obtain ⟨v0, v1, v2⟩ := id V.out
      go_wp2_with fail
      go_ret
      exact ⟨rfl, HB11⟩
    · obtain ⟨E1, hE1, c1'⟩ := then_no w hT H1 (by omega)
      have e1 : (E1 != 0) = true := by simp [hE1]
      have c1 := Lib.hid c1'; clear c1'
      clear H0 H1 hE1
      simp only [adV] at *
      go_enter Tryd.func5, Tryd.ntmps5
      go_wp2_with fail
      refine (p1.out _ (by (repeat (first | (with_reducible exact Below.refl _ _) | ((with_reducible refine below_alloc ?_ ?_ _); · (first | omega | (simp; done) | (simp; omega))) | ((with_reducible refine below_setCell ?_ ?_ _); · (first | omega | (simp; done) | (simp; omega))) | (with_reducible refine Below.drew ?_) | (with_reducible refine below_drewN ?_ _) | ((with_reducible refine below_call (by assumption) ?_ ?_); · (first | omega | (simp; done) | (simp; omega))))))).mono ?_; rintro e w1 ⟨rfl, hb1⟩
      have hz1 := hb1.size
      have HB1 : Below w.heap.size w w1 := by (repeat (first | (with_reducible exact Below.refl _ _) | ((with_reducible refine below_alloc ?_ ?_ _); · (first | omega | (simp; done) | (simp; omega))) | ((with_reducible refine below_setCell ?_ ?_ _); · (first | omega | (simp; done) | (simp; omega))) | (with_reducible refine Below.drew ?_) | (with_reducible refine below_drewN ?_ _) | ((with_reducible refine below_call (by assumption) ?_ ?_); · (first | omega | (simp; done) | (simp; omega)))))
      have X : Hid (Bx3 w1 (w.heap.size + 1) n h r) := Lib.hid (Bx3.call (by simp [Bx3, go_sem]) hb1)
      have lx := X.out.lt
      obtain ⟨x0, x1, x2⟩ := id X.out
      go_wp2_with fail
      clear lx x0 x1 x2
      refine (p2.out _ (HB1.trans ((show Below w1.heap.size w1 _ by (repeat (first | (with_reducible exact Below.refl _ _) | ((with_reducible refine below_alloc ?_ ?_ _); · (first | omega | (simp; done) | (simp; omega))) | ((with_reducible refine below_setCell ?_ ?_ _); · (first | omega | (simp; done) | (simp; omega))) | (with_reducible refine Below.drew ?_) | (with_reducible refine below_drewN ?_ _) | ((with_reducible refine below_call (by assumption) ?_ ?_); · (first | omega | (simp; done) | (simp; omega)))))).mono HB1.size))).mono ?_; rintro e w2 ⟨rfl, hb2⟩
      have hz2 := hb2.size
      have hg2 : Below w1.heap.size w1 w2 := by (repeat (first | (with_reducible exact Below.refl _ _) | ((with_reducible refine below_alloc ?_ ?_ _); · (first | omega | (simp; done) | (simp; omega))) | ((with_reducible refine below_setCell ?_ ?_ _); · (first | omega | (simp; done) | (simp; omega))) | (with_reducible refine Below.drew ?_) | (with_reducible refine below_drewN ?_ _) | ((with_reducible refine below_call (by assumption) ?_ ?_); · (first | omega | (simp; done) | (simp; omega)))))
      have HB2 := HB1.trans (hg2.mono HB1.size)
      have X := Lib.hid (X.out.call hg2)
      have lx := X.out.lt
      obtain ⟨x0, x1, x2⟩ := id X.out
      go_wp2_with fail
      clear lx x0 x1 x2
      refine (p3.out _ (HB2.trans ((show Below w2.heap.size w2 _ by (repeat (first | (with_reducible exact Below.refl _ _) | ((with_reducible refine below_alloc ?_ ?_ _); · (first | omega | (simp; done) | (simp; omega))) | ((with_reducible refine below_setCell ?_ ?_ _); · (first | omega | (simp; done) | (simp; omega))) | (with_reducible refine Below.drew ?_) | (with_reducible refine below_drewN ?_ _) | ((with_reducible refine below_call (by assumption) ?_ ?_); · (first | omega | (simp; done) | (simp; omega)))))).mono HB2.size))).mono ?_; rintro e w3 ⟨rfl, hb3⟩
      have hz3 := hb3.size
      have hg3 : Below w2.heap.size w2 w3 := by (repeat (first | (with_reducible exact Below.refl _ _) | ((with_reducible refine below_alloc ?_ ?_ _); · (first | omega | (simp; done) | (simp; omega))) | ((with_reducible refine below_setCell ?_ ?_ _); · (first | omega | (simp; done) | (simp; omega))) | (with_reducible refine Below.drew ?_) | (with_reducible refine below_drewN ?_ _) | ((with_reducible refine below_call (by assumption) ?_ ?_); · (first | omega | (simp; done) | (simp; omega)))))
      have HB3 := HB2.trans (hg3.mono HB2.size)
      have X := Lib.hid (X.out.call hg3)
      have Y : Hid (Bx3 w3 (w2.heap.size) n h r) := Lib.hid (Bx3.call (by simp [Bx3, go_sem]) hb3)
      have lx := X.out.lt
      obtain ⟨x0, x1, x2⟩ := id X.out
      have ly := Y.out.lt
      obtain ⟨y0, y1, y2⟩ := id Y.out
      go_wp2_with fail
      clear lx x0 x1 x2 ly y0 y1 y2
      refine (c1.out _ (HB3.trans ((show Below w3.heap.size w3 _ by (repeat (first | (with_reducible exact Below.refl _ _) | ((with_reducible refine below_alloc ?_ ?_ _); · (first | omega | (simp; done) | (simp; omega))) | ((with_reducible refine below_setCell ?_ ?_ _); · (first | omega | (simp; done) | (simp; omega))) | (with_reducible refine Below.drew ?_) | (with_reducible refine below_drewN ?_ _) | ((with_reducible refine below_call (by assumption) ?_ ?_); · (first | omega | (simp; done) | (simp; omega)))))).mono HB3.size))).mono ?_; rintro e w4 ⟨rfl, hb4⟩
      have hz4 := hb4.size
      have hg4 : Below w3.heap.size w3 w4 := by (repeat (first | (with_reducible exact Below.refl _ _) | ((with_reducible refine below_alloc ?_ ?_ _); · (first | omega | (simp; done) | (simp; omega))) | ((with_reducible refine below_setCell ?_ ?_ _); · (first | omega | (simp; done) | (simp; omega))) | (with_reducible refine Below.drew ?_) | (with_reducible refine below_drewN ?_ _) | ((with_reducible refine below_call (by assumption) ?_ ?_); · (first | omega | (simp; done) | (simp; omega)))))
      have HB4 := HB3.trans (hg4.mono HB3.size)
      have X := Lib.hid (X.out.call hg4)
      have Y := Lib.hid (Y.out.call hg4)
      have lx := X.out.lt
      obtain ⟨x0, x1, x2⟩ := id X.out
      have ly := Y.out.lt
      obtain ⟨y0, y1, y2⟩ := id Y.out
      go_wp2_with fail
      clear lx x0 x1 x2 ly y0 y1 y2
      refine (aw.out _ (HB4.trans ((show Below w4.heap.size w4 _ by (repeat (first | (with_reducible exact Below.refl _ _) | ((with_reducible refine below_alloc ?_ ?_ _); · (first | omega | (simp; done) | (simp; omega))) | ((with_reducible refine below_setCell ?_ ?_ _); · (first | omega | (simp; done) | (simp; omega))) | (with_reducible refine Below.drew ?_) | (with_reducible refine below_drewN ?_ _) | ((with_reducible refine below_call (by assumption) ?_ ?_); · (first | omega | (simp; done) | (simp; omega)))))).mono HB4.size))).mono ?_; rintro e w5 ⟨rfl, hb5⟩
      have hz5 := hb5.size
      have hg5 : Below w4.heap.size w4 w5 := by (repeat (first | (with_reducible exact Below.refl _ _) | ((with_reducible refine below_alloc ?_ ?_ _); · (first | omega | (simp; done) | (simp; omega))) | ((with_reducible refine below_setCell ?_ ?_ _); · (first | omega | (simp; done) | (simp; omega))) | (with_reducible refine Below.drew ?_) | (with_reducible refine below_drewN ?_ _) | ((with_reducible refine below_call (by assumption) ?_ ?_); · (first | omega | (simp; done) | (simp; omega)))))
      have HB5 := HB4.trans (hg5.mono HB4.size)
      have X := Lib.hid (X.out.call hg5)
      have Y := Lib.hid (Y.out.call hg5)
      have lx := X.out.lt
      obtain ⟨x0, x1, x2⟩ := id X.out
      have ly := Y.out.lt
      obtain ⟨y0, y1, y2⟩ := id Y.out
      go_wp2_with fail
      go_ret
      exact ⟨rfl, HB5⟩
  · obtain ⟨E0, E2, y0, y1, y2, hE0, p1', p2', p3'⟩ := first_no w hT H0 (by omega) (by omega) (by omega)
    have e0 : (E0 == 0) = false := by simp [hE0]
    have e0' : (E0 != 0) = true := by simp [hE0]
    clear hE0
    have p1 := Lib.hid p1'; have p2 := Lib.hid p2'; have p3 := Lib.hid p3'; clear p1' p2' p3'
    by_cases H1 : parE s = 0
    · obtain ⟨a, b, c, U, B, hB33, c1', c2', c3', c4', c5', c6', c7'⟩ := then_yes w hT H1 (by omega)
      have c1 := Lib.hid c1'; have c2 := Lib.hid c2'; have c3 := Lib.hid c3'; have c4 := Lib.hid c4'; have c5 := Lib.hid c5'; have c6 := Lib.hid c6'; have c7 := Lib.hid c7'; clear c1' c2' c3' c4' c5' c6' c7'
      clear H0 H1
      simp only [adV] at *
      go_enter Tryd.func5, Tryd.ntmps5
      go_wp2_with fail
      refine (p1.out _ (by (repeat (first | (with_reducible exact Below.refl _ _) | ((with_reducible refine below_alloc ?_ ?_ _); · (first | omega | (simp; done) | (simp; omega))) | ((with_reducible refine below_setCell ?_ ?_ _); · (first | omega | (simp; done) | (simp; omega))) | (with_reducible refine Below.drew ?_) | (with_reducible refine below_drewN ?_ _) | ((with_reducible refine below_call (by assumption) ?_ ?_); · (first | omega | (simp; done) | (simp; omega))))))).mono ?_; rintro e w1 ⟨rfl, hb1⟩
      have hz1 := hb1.size
      have HB1 : Below w.heap.size w w1 := by (repeat (first | (with_reducible exact Below.refl _ _) | ((with_reducible refine below_alloc ?_ ?_ _); · (first | omega | (simp; done) | (simp; omega))) | ((with_reducible refine below_setCell ?_ ?_ _); · (first | omega | (simp; done) | (simp; omega))) | (with_reducible refine Below.drew ?_) | (with_reducible refine below_drewN ?_ _) | ((with_reducible refine below_call (by assumption) ?_ ?_); · (first | omega | (simp; done) | (simp; omega)))))
      have X : Hid (Bx3 w1 (w.heap.size + 1) n h r) := Lib.hid (Bx3.call (by simp [Bx3, go_sem]) hb1)
      have lx := X.out.lt
      obtain ⟨x0, x1, x2⟩ := id X.out
      go_wp2_with fail
      clear lx x0 x1 x2
      refine (p2.out _ (HB1.trans ((show Below w1.heap.size w1 _ by (repeat (first | (with_reducible exact Below.refl _ _) | ((with_reducible refine below_alloc ?_ ?_ _); · (first | omega | (simp; done) | (simp; omega))) | ((with_reducible refine below_setCell ?_ ?_ _); · (first | omega | (simp; done) | (simp; omega))) | (with_reducible refine Below.drew ?_) | (with_reducible refine below_drewN ?_ _) | ((with_reducible refine below_call (by assumption) ?_ ?_); · (first | omega | (simp; done) | (simp; omega)))))).mono HB1.size))).mono ?_; rintro e w2 ⟨rfl, hb2⟩
      have hz2 := hb2.size
      have hg2 : Below w1.heap.size w1 w2 := by (repeat (first | (with_reducible exact Below.refl _ _) | ((with_reducible refine below_alloc ?_ ?_ _); · (first | omega | (simp; done) | (simp; omega))) | ((with_reducible refine below_setCell ?_ ?_ _); · (first | omega | (simp; done) | (simp; omega))) | (with_reducible refine Below.drew ?_) | (with_reducible refine below_drewN ?_ _) | ((with_reducible refine below_call (by assumption) ?_ ?_); · (first | omega | (simp; done) | (simp; omega)))))
      have HB2 := HB1.trans (hg2.mono HB1.size)
      have X := Lib.hid (X.out.call hg2)
      have lx := X.out.lt
      obtain ⟨x0, x1, x2⟩ := id X.out
      go_wp2_with fail
      clear lx x0 x1 x2
      refine (p3.out _ (HB2.trans ((show Below w2.heap.size w2 _ by (repeat (first | (with_reducible exact Below.refl _ _) | ((with_reducible refine below_alloc ?_ ?_ _); · (first | omega | (simp; done) | (simp; omega))) | ((with_reducible refine below_setCell ?_ ?_ _); · (first | omega | (simp; done) | (simp; omega))) | (with_reducible refine Below.drew ?_) | (with_reducible refine below_drewN ?_ _) | ((with_reducible refine below_call (by assumption) ?_ ?_); · (first | omega | (simp; done) | (simp; omega)))))).mono HB2.size))).mono ?_; rintro e w3 ⟨rfl, hb3⟩
      have hz3 := hb3.size
      have hg3 : Below w2.heap.size w2 w3 := by (repeat (first | (with_reducible exact Below.refl _ _) | ((with_reducible refine below_alloc ?_ ?_ _); · (first | omega | (simp; done) | (simp; omega))) | ((with_reducible refine below_setCell ?_ ?_ _); · (first | omega | (simp; done) | (simp; omega))) | (with_reducible refine Below.drew ?_) | (with_reducible refine below_drewN ?_ _) | ((with_reducible refine below_call (by assumption) ?_ ?_); · (first | omega | (simp; done) | (simp; omega)))))
      have HB3 := HB2.trans (hg3.mono HB2.size)
      have X := Lib.hid (X.out.call hg3)
      have Y : Hid (Bx3 w3 (w2.heap.size) y0 y1 y2) := Lib.hid (Bx3.call (by simp [Bx3, go_sem]) hb3)
      have lx := X.out.lt
      obtain ⟨x0, x1, x2⟩ := id X.out
      have ly := Y.out.lt
      obtain ⟨y0, y1, y2⟩ := id Y.out
      go_wp2_with fail
      clear lx x0 x1 x2 ly y0 y1 y2
      refine (c1.out _ (HB3.trans ((show Below w3.heap.size w3 _ by (repeat (first | (with_reducible exact Below.refl _ _) | ((with_reducible refine below_alloc ?_ ?_ _); · (first | omega | (simp; done) | (simp; omega))) | ((with_reducible refine below_setCell ?_ ?_ _); · (first | omega | (simp; done) | (simp; omega))) | (with_reducible refine Below.drew ?_) | (with_reducible refine below_drewN ?_ _) | ((with_reducible refine below_call (by assumption) ?_ ?_); · (first | omega | (simp; done) | (simp; omega)))))).mono HB3.size))).mono ?_; rintro e w4 ⟨rfl, hb4⟩
      have hz4 := hb4.size
      have hg4 : Below w3.heap.size w3 w4 := by (repeat (first | (with_reducible exact Below.refl _ _) | ((with_reducible refine below_alloc ?_ ?_ _); · (first | omega | (simp; done) | (simp; omega))) | ((with_reducible refine below_setCell ?_ ?_ _); · (first | omega | (simp; done) | (simp; omega))) | (with_reducible refine Below.drew ?_) | (with_reducible refine below_drewN ?_ _) | ((with_reducible refine below_call (by assumption) ?_ ?_); · (first | omega | (simp; done) | (simp; omega)))))
      have HB4 := HB3.trans (hg4.mono HB3.size)
      have X := Lib.hid (X.out.call hg4)
      have Y := Lib.hid (Y.out.call hg4)
      have lx := X.out.lt
      obtain ⟨x0, x1, x2⟩ := id X.out
      have ly := Y.out.lt
      obtain ⟨y0, y1, y2⟩ := id Y.out
      go_wp2_with fail
      clear lx x0 x1 x2 ly y0 y1 y2
      refine (c2.out _ (HB4.trans ((show Below w4.heap.size w4 _ by (repeat (first | (with_reducible exact Below.refl _ _) | ((with_reducible refine below_alloc ?_ ?_ _); · (first | omega | (simp; done) | (simp; omega))) | ((with_reducible refine below_setCell ?_ ?_ _); · (first | omega | (simp; done) | (simp; omega))) | (with_reducible refine Below.drew ?_) | (with_reducible refine below_drewN ?_ _) | ((with_reducible refine below_call (by assumption) ?_ ?_); · (first | omega | (simp; done) | (simp; omega)))))).mono HB4.size))).mono ?_; rintro e w5 ⟨rfl, hb5⟩
      have hz5 := hb5.size
      have hg5 : Below w4.heap.size w4 w5 := by (repeat (first | (with_reducible exact Below.refl _ _) | ((with_reducible refine below_alloc ?_ ?_ _); · (first | omega | (simp; done) | (simp; omega))) | ((with_reducible refine below_setCell ?_ ?_ _); · (first | omega | (simp; done) | (simp; omega))) | (with_reducible refine Below.drew ?_) | (with_reducible refine below_drewN ?_ _) | ((with_reducible refine below_call (by assumption) ?_ ?_); · (first | omega | (simp; done) | (simp; omega)))))
      have HB5 := HB4.trans (hg5.mono HB4.size)
      have X := Lib.hid (X.out.call hg5)
      have Y := Lib.hid (Y.out.call hg5)
      have Z : Hid (Bx3 w5 (w4.heap.size) a b c) := Lib.hid (Bx3.call (by simp [Bx3, go_sem]) hb5)
      have lx := X.out.lt
      obtain ⟨x0, x1, x2⟩ := id X.out
      have ly := Y.out.lt
      obtain ⟨y0, y1, y2⟩ := id Y.out
      have lz := Z.out.lt
      obtain ⟨z0, z1, z2⟩ := id Z.out
      go_wp2_with fail
      clear lx x0 x1 x2 ly y0 y1 y2 lz z0 z1 z2
      refine (c3.out _ (HB5.trans ((show Below w5.heap.size w5 _ by (repeat (first | (with_reducible exact Below.refl _ _) | ((with_reducible refine below_alloc ?_ ?_ _); · (first | omega | (simp; done) | (simp; omega))) | ((with_reducible refine below_setCell ?_ ?_ _); · (first | omega | (simp; done) | (simp; omega))) | (with_reducible refine Below.drew ?_) | (with_reducible refine below_drewN ?_ _) | ((with_reducible refine below_call (by assumption) ?_ ?_); · (first | omega | (simp; done) | (simp; omega)))))).mono HB5.size))).mono ?_; rintro e w6 ⟨rfl, hb6⟩
      have hz6 := hb6.size
      have hg6 : Below w5.heap.size w5 w6 := by (repeat (first | (with_reducible exact Below.refl _ _) | ((with_reducible refine below_alloc ?_ ?_ _); · (first | omega | (simp; done) | (simp; omega))) | ((with_reducible refine below_setCell ?_ ?_ _); · (first | omega | (simp; done) | (simp; omega))) | (with_reducible refine Below.drew ?_) | (with_reducible refine below_drewN ?_ _) | ((with_reducible refine below_call (by assumption) ?_ ?_); · (first | omega | (simp; done) | (simp; omega)))))
      have HB6 := HB5.trans (hg6.mono HB5.size)
      have X := Lib.hid (X.out.call hg6)
      have Y := Lib.hid (Y.out.call hg6)
      have Z := Lib.hid (Z.out.call hg6)
      have lx := X.out.lt
      obtain ⟨x0, x1, x2⟩ := id X.out
      have ly := Y.out.lt
      obtain ⟨y0, y1, y2⟩ := id Y.out
      have lz := Z.out.lt
      obtain ⟨z0, z1, z2⟩ := id Z.out
      go_wp2_with fail
      clear lx x0 x1 x2 ly y0 y1 y2 lz z0 z1 z2
      refine (c4.out _ (HB6.trans ((show Below w6.heap.size w6 _ by (repeat (first | (with_reducible exact Below.refl _ _) | ((with_reducible refine below_alloc ?_ ?_ _); · (first | omega | (simp; done) | (simp; omega))) | ((with_reducible refine below_setCell ?_ ?_ _); · (first | omega | (simp; done) | (simp; omega))) | (with_reducible refine Below.drew ?_) | (with_reducible refine below_drewN ?_ _) | ((with_reducible refine below_call (by assumption) ?_ ?_); · (first | omega | (simp; done) | (simp; omega)))))).mono HB6.size))).mono ?_; rintro e w7 ⟨rfl, hb7⟩
      have hz7 := hb7.size
      have hg7 : Below w6.heap.size w6 w7 := by (repeat (first | (with_reducible exact Below.refl _ _) | ((with_reducible refine below_alloc ?_ ?_ _); · (first | omega | (simp; done) | (simp; omega))) | ((with_reducible refine below_setCell ?_ ?_ _); · (first | omega | (simp; done) | (simp; omega))) | (with_reducible refine Below.drew ?_) | (with_reducible refine below_drewN ?_ _) | ((with_reducible refine below_call (by assumption) ?_ ?_); · (first | omega | (simp; done) | (simp; omega)))))
      have HB7 := HB6.trans (hg7.mono HB6.size)
      have X := Lib.hid (X.out.call hg7)
      have Y := Lib.hid (Y.out.call hg7)
      have Z := Lib.hid (Z.out.call hg7)
      have V : Hid (Bx3 w7 (w6.heap.size) a b c) := Lib.hid (Bx3.call (by simp [Bx3, go_sem]) hb7)
      have lx := X.out.lt
      obtain ⟨x0, x1, x2⟩ := id X.out
      have ly := Y.out.lt
      obtain ⟨y0, y1, y2⟩ := id Y.out
      have lz := Z.out.lt
      obtain ⟨z0, z1, z2⟩ := id Z.out
      have lv := V.out.lt
      obtain ⟨v0, v1, v2⟩ := id V.out
      go_wp2_with fail
      clear lx x0 x1 x2 ly y0 y1 y2 lz z0 z1 z2 lv v0 v1 v2
      refine (c5.out _ (HB7.trans ((show Below w7.heap.size w7 _ by (repeat (first | (with_reducible exact Below.refl _ _) | ((with_reducible refine below_alloc ?_ ?_ _); · (first | omega | (simp; done) | (simp; omega))) | ((with_reducible refine below_setCell ?_ ?_ _); · (first | omega | (simp; done) | (simp; omega))) | (with_reducible refine Below.drew ?_) | (with_reducible refine below_drewN ?_ _) | ((with_reducible refine below_call (by assumption) ?_ ?_); · (first | omega | (simp; done) | (simp; omega)))))).mono HB7.size))).mono ?_; rintro e w8 ⟨rfl, hb8⟩
      have hz8 := hb8.size
      have hg8 : Below w7.heap.size w7 w8 := by (repeat (first | (with_reducible exact Below.refl _ _) | ((with_reducible refine below_alloc ?_ ?_ _); · (first | omega | (simp; done) | (simp; omega))) | ((with_reducible refine below_setCell ?_ ?_ _); · (first | omega | (simp; done) | (simp; omega))) | (with_reducible refine Below.drew ?_) | (with_reducible refine below_drewN ?_ _) | ((with_reducible refine below_call (by assumption) ?_ ?_); · (first | omega | (simp; done) | (simp; omega)))))
      have HB8 := HB7.trans (hg8.mono HB7.size)
      have X := Lib.hid (X.out.call hg8)
      have Y := Lib.hid (Y.out.call hg8)
      have Z := Lib.hid (Z.out.call hg8)
      have V := Lib.hid (V.out.call hg8)
      have lx := X.out.lt
      obtain ⟨x0, x1, x2⟩ := id X.out
      have ly := Y.out.lt
      obtain ⟨y0, y1, y2⟩ := id Y.out
      have lz := Z.out.lt
      obtain ⟨z0, z1, z2⟩ := id Z.out
      have lv := V.out.lt
      obtain ⟨v0, v1, v2⟩ := id V.out
      go_wp2_with fail
      clear lx x0 x1 x2 ly y0 y1 y2 lz z0 z1 z2 lv v0 v1 v2
      refine (c6.out _ (HB8.trans ((show Below w8.heap.size w8 _ by (repeat (first | (with_reducible exact Below.refl _ _) | ((with_reducible refine below_alloc ?_ ?_ _); · (first | omega | (simp; done) | (simp; omega))) | ((with_reducible refine below_setCell ?_ ?_ _); · (first | omega | (simp; done) | (simp; omega))) | (with_reducible refine Below.drew ?_) | (with_reducible refine below_drewN ?_ _) | ((with_reducible refine below_call (by assumption) ?_ ?_); · (first | omega | (simp; done) | (simp; omega)))))).mono HB8.size))).mono ?_; rintro e w9 ⟨rfl, hb9⟩
      have hz9 := hb9.size
      have hg9 : Below w8.heap.size w8 w9 := by (repeat (first | (with_reducible exact Below.refl _ _) | ((with_reducible refine below_alloc ?_ ?_ _); · (first | omega | (simp; done) | (simp; omega))) | ((with_reducible refine below_setCell ?_ ?_ _); · (first | omega | (simp; done) | (simp; omega))) | (with_reducible refine Below.drew ?_) | (with_reducible refine below_drewN ?_ _) | ((with_reducible refine below_call (by assumption) ?_ ?_); · (first | omega | (simp; done) | (simp; omega)))))
      have HB9 := HB8.trans (hg9.mono HB8.size)
      have X := Lib.hid (X.out.call hg9)
      have Y := Lib.hid (Y.out.call hg9)
      have Z := Lib.hid (Z.out.call hg9)
      have V := Lib.hid (V.out.call hg9)
      have lx := X.out.lt
      obtain ⟨x0, x1, x2⟩ := id X.out
      have ly := Y.out.lt
      obtain ⟨y0, y1, y2⟩ := id Y.out
      have lz := Z.out.lt
      obtain ⟨z0, z1, z2⟩ := id Z.out
      have lv := V.out.lt
      obtain ⟨v0, v1, v2⟩ := id V.out
      go_wp2_with fail
      clear lx x0 x1 x2 ly y0 y1 y2 lz z0 z1 z2 lv v0 v1 v2
      refine (c7.out _ (HB9.trans ((show Below w9.heap.size w9 _ by (repeat (first | (with_reducible exact Below.refl _ _) | ((with_reducible refine below_alloc ?_ ?_ _); · (first | omega | (simp; done) | (simp; omega))) | ((with_reducible refine below_setCell ?_ ?_ _); · (first | omega | (simp; done) | (simp; omega))) | (with_reducible refine Below.drew ?_) | (with_reducible refine below_drewN ?_ _) | ((with_reducible refine below_call (by assumption) ?_ ?_); · (first | omega | (simp; done) | (simp; omega)))))).mono HB9.size))).mono ?_; rintro e w10 ⟨rfl, hb10⟩
      have hz10 := hb10.size
      have hg10 : Below w9.heap.size w9 w10 := by (repeat (first | (with_reducible exact Below.refl _ _) | ((with_reducible refine below_alloc ?_ ?_ _); · (first | omega | (simp; done) | (simp; omega))) | ((with_reducible refine below_setCell ?_ ?_ _); · (first | omega | (simp; done) | (simp; omega))) | (with_reducible refine Below.drew ?_) | (with_reducible refine below_drewN ?_ _) | ((with_reducible refine below_call (by assumption) ?_ ?_); · (first | omega | (simp; done) | (simp; omega)))))
      have HB10 := HB9.trans (hg10.mono HB9.size)
      have X := Lib.hid (X.out.call hg10)
      have Y := Lib.hid (Y.out.call hg10)
      have Z := Lib.hid (Z.out.call hg10)
      have V := Lib.hid (V.out.call hg10)
      have lx := X.out.lt
      obtain ⟨x0, x1, x2⟩ := id X.out
      have ly := Y.out.lt
      obtain ⟨y0, y1, y2⟩ := id Y.out
      have lz := Z.out.lt
      obtain ⟨z0, z1, z2⟩ := id Z.out
      have lv := V.out.lt
      obtain ⟨v0, v1, v2⟩ := id V.out
      go_wp2_with fail
      clear lx x0 x1 x2 ly y0 y1 y2 lz z0 z1 z2 lv v0 v1 v2
      refine (aw.out _ (HB10.trans ((show Below w10.heap.size w10 _ by (repeat (first | (with_reducible exact Below.refl _ _) | ((with_reducible refine below_alloc ?_ ?_ _); · (first | omega | (simp; done) | (simp; omega))) | ((with_reducible refine below_setCell ?_ ?_ _); · (first | omega | (simp; done) | (simp; omega))) | (with_reducible refine Below.drew ?_) | (with_reducible refine below_drewN ?_ _) | ((with_reducible refine below_call (by assumption) ?_ ?_); · (first | omega | (simp; done) | (simp; omega)))))).mono HB10.size))).mono ?_; rintro e w11 ⟨rfl, hb11⟩
      have hz11 := hb11.size
      have hg11 : Below w10.heap.size w10 w11 := by (repeat (first | (with_reducible exact Below.refl _ _) | ((with_reducible refine below_alloc ?_ ?_ _); · (first | omega | (simp; done) | (simp; omega))) | ((with_reducible refine below_setCell ?_ ?_ _); · (first | omega | (simp; done) | (simp; omega))) | (with_reducible refine Below.drew ?_) | (with_reducible refine below_drewN ?_ _) | ((with_reducible refine below_call (by assumption) ?_ ?_); · (first | omega | (simp; done) | (simp; omega)))))
      have HB11 := HB10.trans (hg11.mono HB10.size)
      have X := Lib.hid (X.out.call hg11)
      have Y := Lib.hid (Y.out.call hg11)
      have Z := Lib.hid (Z.out.call hg11)
      have V := Lib.hid (V.out.call hg11)
      have lx := X.out.lt
      obtain ⟨x0, x1, x2⟩ := id X.out
      have ly := Y.out.lt
      obtain ⟨y0, y1, y2⟩ := id Y.out
      have lz := Z.out.lt
      obtain ⟨z0, z1, z2⟩ := id Z.out
      have lv := V.out.lt
      obtain ⟨v0, v1, v2⟩ := id V.out
      go_wp2_with fail
      go_ret
      exact ⟨rfl, HB11⟩
    · obtain ⟨E1, hE1, c1'⟩ := then_no w hT H1 (by omega)
      have e1 : (E1 != 0) = true := by simp [hE1]
      have c1 := Lib.hid c1'; clear c1'
      clear H0 H1 hE1
      simp only [adV] at *
      go_enter Tryd.func5, Tryd.ntmps5
      go_wp2_with fail
      refine (p1.out _ (by (repeat (first | (with_reducible exact Below.refl _ _) | ((with_reducible refine below_alloc ?_ ?_ _); · (first | omega | (simp; done) | (simp; omega))) | ((with_reducible refine below_setCell ?_ ?_ _); · (first | omega | (simp; done) | (simp; omega))) | (with_reducible refine Below.drew ?_) | (with_reducible refine below_drewN ?_ _) | ((with_reducible refine below_call (by assumption) ?_ ?_); · (first | omega | (simp; done) | (simp; omega))))))).mono ?_; rintro e w1 ⟨rfl, hb1⟩
      have hz1 := hb1.size
      have HB1 : Below w.heap.size w w1 := by (repeat (first | (with_reducible exact Below.refl _ _) | ((with_reducible refine below_alloc ?_ ?_ _); · (first | omega | (simp; done) | (simp; omega))) | ((with_reducible refine below_setCell ?_ ?_ _); · (first | omega | (simp; done) | (simp; omega))) | (with_reducible refine Below.drew ?_) | (with_reducible refine below_drewN ?_ _) | ((with_reducible refine below_call (by assumption) ?_ ?_); · (first | omega | (simp; done) | (simp; omega)))))
      have X : Hid (Bx3 w1 (w.heap.size + 1) n h r) := Lib.hid (Bx3.call (by simp [Bx3, go_sem]) hb1)
      have lx := X.out.lt
      obtain ⟨x0, x1, x2⟩ := id X.out
      go_wp2_with fail
      clear lx x0 x1 x2
      refine (p2.out _ (HB1.trans ((show Below w1.heap.size w1 _ by (repeat (first | (with_reducible exact Below.refl _ _) | ((with_reducible refine below_alloc ?_ ?_ _); · (first | omega | (simp; done) | (simp; omega))) | ((with_reducible refine below_setCell ?_ ?_ _); · (first | omega | (simp; done) | (simp; omega))) | (with_reducible refine Below.drew ?_) | (with_reducible refine below_drewN ?_ _) | ((with_reducible refine below_call (by assumption) ?_ ?_); · (first | omega | (simp; done) | (simp; omega)))))).mono HB1.size))).mono ?_; rintro e w2 ⟨rfl, hb2⟩
      have hz2 := hb2.size
      have hg2 : Below w1.heap.size w1 w2 := by (repeat (first | (with_reducible exact Below.refl _ _) | ((with_reducible refine below_alloc ?_ ?_ _); · (first | omega | (simp; done) | (simp; omega))) | ((with_reducible refine below_setCell ?_ ?_ _); · (first | omega | (simp; done) | (simp; omega))) | (with_reducible refine Below.drew ?_) | (with_reducible refine below_drewN ?_ _) | ((with_reducible refine below_call (by assumption) ?_ ?_); · (first | omega | (simp; done) | (simp; omega)))))
      have HB2 := HB1.trans (hg2.mono HB1.size)
      have X := Lib.hid (X.out.call hg2)
      have lx := X.out.lt
      obtain ⟨x0, x1, x2⟩ := id X.out
      go_wp2_with fail
      clear lx x0 x1 x2
      refine (p3.out _ (HB2.trans ((show Below w2.heap.size w2 _ by (repeat (first | (with_reducible exact Below.refl _ _) | ((with_reducible refine below_alloc ?_ ?_ _); · (first | omega | (simp; done) | (simp; omega))) | ((with_reducible refine below_setCell ?_ ?_ _); · (first | omega | (simp; done) | (simp; omega))) | (with_reducible refine Below.drew ?_) | (with_reducible refine below_drewN ?_ _) | ((with_reducible refine below_call (by assumption) ?_ ?_); · (first | omega | (simp; done) | (simp; omega)))))).mono HB2.size))).mono ?_; rintro e w3 ⟨rfl, hb3⟩
      have hz3 := hb3.size
      have hg3 : Below w2.heap.size w2 w3 := by (repeat (first | (with_reducible exact Below.refl _ _) | ((with_reducible refine below_alloc ?_ ?_ _); · (first | omega | (simp; done) | (simp; omega))) | ((with_reducible refine below_setCell ?_ ?_ _); · (first | omega | (simp; done) | (simp; omega))) | (with_reducible refine Below.drew ?_) | (with_reducible refine below_drewN ?_ _) | ((with_reducible refine below_call (by assumption) ?_ ?_); · (first | omega | (simp; done) | (simp; omega)))))
      have HB3 := HB2.trans (hg3.mono HB2.size)
      have X := Lib.hid (X.out.call hg3)
      have Y : Hid (Bx3 w3 (w2.heap.size) y0 y1 y2) := Lib.hid (Bx3.call (by simp [Bx3, go_sem]) hb3)
      have lx := X.out.lt
      obtain ⟨x0, x1, x2⟩ := id X.out
      have ly := Y.out.lt
      obtain ⟨y0, y1, y2⟩ := id Y.out
      go_wp2_with fail
      clear lx x0 x1 x2 ly y0 y1 y2
      refine (c1.out _ (HB3.trans ((show Below w3.heap.size w3 _ by (repeat (first | (with_reducible exact Below.refl _ _) | ((with_reducible refine below_alloc ?_ ?_ _); · (first | omega | (simp; done) | (simp; omega))) | ((with_reducible refine below_setCell ?_ ?_ _); · (first | omega | (simp; done) | (simp; omega))) | (with_reducible refine Below.drew ?_) | (with_reducible refine below_drewN ?_ _) | ((with_reducible refine below_call (by assumption) ?_ ?_); · (first | omega | (simp; done) | (simp; omega)))))).mono HB3.size))).mono ?_; rintro e w4 ⟨rfl, hb4⟩
      have hz4 := hb4.size
      have hg4 : Below w3.heap.size w3 w4 := by (repeat (first | (with_reducible exact Below.refl _ _) | ((with_reducible refine below_alloc ?_ ?_ _); · (first | omega | (simp; done) | (simp; omega))) | ((with_reducible refine below_setCell ?_ ?_ _); · (first | omega | (simp; done) | (simp; omega))) | (with_reducible refine Below.drew ?_) | (with_reducible refine below_drewN ?_ _) | ((with_reducible refine below_call (by assumption) ?_ ?_); · (first | omega | (simp; done) | (simp; omega)))))
      have HB4 := HB3.trans (hg4.mono HB3.size)
      have X := Lib.hid (X.out.call hg4)
      have Y := Lib.hid (Y.out.call hg4)
      have lx := X.out.lt
      obtain ⟨x0, x1, x2⟩ := id X.out
      have ly := Y.out.lt
      obtain ⟨y0, y1, y2⟩ := id Y.out
      go_wp2_with fail
      clear lx x0 x1 x2 ly y0 y1 y2
      refine (aw.out _ (HB4.trans ((show Below w4.heap.size w4 _ by (repeat (first | (with_reducible exact Below.refl _ _) | ((with_reducible refine below_alloc ?_ ?_ _); · (first | omega | (simp; done) | (simp; omega))) | ((with_reducible refine below_setCell ?_ ?_ _); · (first | omega | (simp; done) | (simp; omega))) | (with_reducible refine Below.drew ?_) | (with_reducible refine below_drewN ?_ _) | ((with_reducible refine below_call (by assumption) ?_ ?_); · (first | omega | (simp; done) | (simp; omega)))))).mono HB4.size))).mono ?_; rintro e w5 ⟨rfl, hb5⟩
      have hz5 := hb5.size
      have hg5 : Below w4.heap.size w4 w5 := by (repeat (first | (with_reducible exact Below.refl _ _) | ((with_reducible refine below_alloc ?_ ?_ _); · (first | omega | (simp; done) | (simp; omega))) | ((with_reducible refine below_setCell ?_ ?_ _); · (first | omega | (simp; done) | (simp; omega))) | (with_reducible refine Below.drew ?_) | (with_reducible refine below_drewN ?_ _) | ((with_reducible refine below_call (by assumption) ?_ ?_); · (first | omega | (simp; done) | (simp; omega)))))
      have HB5 := HB4.trans (hg5.mono HB4.size)
      have X := Lib.hid (X.out.call hg5)
      have Y := Lib.hid (Y.out.call hg5)
      have lx := X.out.lt
      obtain ⟨x0, x1, x2⟩ := id X.out
      have ly := Y.out.lt
      obtain ⟨y0, y1, y2⟩ := id Y.out
      go_wp2_with fail
      go_ret
      exact ⟨rfl, HB5⟩

set_option maxRecDepth 100000 in
theorem aback_lifted (os : Os) (started : os.Started) (H : Type) (enc : TypeId × Value → H) :
    ReturnsInHanded {} Tryd.checked os 5 .any (fun w args => (Rows.addrBackSpec.pre enc Tryd.prog Tryd.f5 Rows.addrBackRow.domain false w args ∧ laidMetH Tryd.prog laidU8 w) ∧ sizedMet enc Tryd.prog Tryd.f5 (OpenSpec.ofChange Rows.addrBackSpec) false w args)
      (Rows.addrBackSpec.post enc Tryd.prog Tryd.f5 false true false false) := by
  refine handed_shape (Pre' := fun w args => (Rows.addrBackSpec.pre enc Tryd.prog Tryd.f5 Rows.addrBackRow.domain false w args ∧ (laidMetH Tryd.prog laidU8 w ∧ Maxs w)) ∧ sizedMet enc Tryd.prog Tryd.f5 (OpenSpec.ofChange Rows.addrBackSpec) false w args) (fun w args hs h => ⟨⟨h.1.1, h.1.2, maxs_of_shape hs⟩, h.2⟩) (fun w args h => ⟨⟨h.1.1, h.1.2.1⟩, h.2⟩) ?_
  refine returnsInHanded_of_change_and (C := Tryd.checked) (X := fun w _ => laidMetH Tryd.prog laidU8 w ∧ Maxs w) (fun _ _ _ hh h => ⟨h.1.of_heap hh, h.2.of_heap hh⟩) own started (by kernel_rfl) Tryd.func5
    (ChangeSpec.witness_shaped (enc := enc) (C := Tryd.checked) (os := os) (X := fun w _ => laidMetH Tryd.prog laidU8 w ∧ Maxs w) false (World.laidAll Tryd.prog os laidU8) #[.agg #[.string ⟨#[]⟩, .string ⟨#[]⟩, .string ⟨#[]⟩], .string ⟨#[]⟩] 8 (World.laidAll_os _ _ _)
      (World.shaped_of_ZipB (by kernel_rfl) (by kernel_rfl)) (by kernel_rfl) (by kernel_rfl) (by kernel_rfl)
      ⟨by rw [MakeChecks.laidMetH_plain _ _ _ (by kernel_rfl)]; exact laidMet_laidAll _ (by kernel_rfl) (by kernel_rfl), maxs_laid os⟩) ?_
  intro W base args ds gs before hval0 hW _ _ hLM _
  obtain ⟨hL, hM⟩ := hLM
  have hval : ∀ (j : Nat) t v, Tryd.f5.params[j]? = some t → args[j]? = some v → Value.okWide Tryd.prog W .any base t v := hval0
  have hW' := hW
  obtain ⟨p, q, hA0, hV, rfl, hfz, hnd⟩ := hW
  have hA : DataW.TrodAll enc Tryd.prog W 0 (fun _ => true) true Tryd.f5.params.toList args.toList ds p := hA0
  rw [Tryd.params5] at hA hval
  obtain ⟨v0, vs0, d0, ds0, p0, q0, hargs, rfl, rfl, h0, r0⟩ := trodAll_cons hA
  obtain ⟨v1, vs1, d1, ds1, p1, q1, rfl, rfl, rfl, h1, r1⟩ := trodAll_cons r0
  obtain ⟨rfl, rfl, rfl⟩ := trodAll_nil r1
  obtain rfl : args = #[v0, v1] := by cases args; simp_all
  obtain ⟨rfl, rfl⟩ := trodVars_none hV
  obtain ⟨n, h, r, rfl, _, _, _⟩ := open_addr (hval 0 28 v0 rfl rfl) h0
  obtain ⟨s, rfl, rfl, rfl, _⟩ := Go.ChangeMaps.open_string Tryd.underlying9 (hval 1 9 v1 rfl rfl) h1
  refine (aback_walk n h r s W ⟨tabs_of_laid hL, hM⟩).mono fun e W' ⟨he, hb⟩ => ?_
  subst he
  exact ⟨_, rfl, law_post rfl rfl Tryd.underlying4 (by kernel_rfl) rfl hW' hb⟩
theorem aback_holds : Rows.AddrBackSaid :=
  OpenClaim.holds_of_wide 5 Tryd.f5 rfl rfl rfl rfl rfl rfl rfl ⟨rfl, rfl, rfl, rfl, rfl⟩ rfl rfl rfl rfl rfl (by kernel_rfl) Tryd.func5 (by kernel_rfl)
    (of_decide_eq_true (by kernel_rfl)) (by unfold Func.isWrapper; first | (rw [if_pos (by decide +kernel)]; kernel_rfl) | (rw [if_neg (by decide +kernel)]; exact ⟨rfl, rfl⟩))
    (fun os started H enc _ => aback_lifted os started H enc)
theorem aback_card : Rows.AddrBackCardSaid :=
  Claim7.holds_tied_plain_at .later [] [.data, .pinned] true Rows.addrBackCard.stood.harness false aback_holds (fun _ h => by cases h) (by kernel_rfl) (fun _ h => by cases h) addrBack_row_tie rfl ⟨rfl, rfl⟩ (by kernel_rfl) rfl
    (fun f fn hf hfn => by
      obtain rfl : f = 5 := Option.some.inj ((show Tryd.prog.funcNamed "callboy/callboylaw09.AddrBack" = some 5 by kernel_rfl).symm.trans hf) |>.symm
      obtain rfl : fn = Tryd.f5 := (Option.some.inj (Tryd.func5.symm.trans hfn)).symm
      exact ⟨by kernel_rfl, fun j t ht => by
        rw [Tryd.params5] at ht
        have hm : t ∈ [28, 9] := by simpa using Array.mem_of_getElem? ht
        have hall : ([28, 9].all fun u => !Tryd.prog.wantsStandIn u) = true := by kernel_rfl
        exact (show Tryd.prog.wantsStandIn t = false by simpa using List.all_eq_true.1 hall t hm)⟩)
    (by kernel_rfl)
end Go.Proofs.YtngaklciclbofaaDoor
