/- StanzaBack: what is put is read as it was, has at most 128 bytes, and with a byte less, or more, is none; what is read is put as it was: the statement holds for every input. No condition. -/
import Derived.Test.YtiiikfcipnggeaaDoorS10W
import Derived.Test.YtiiikfcipnggeaaDoorLawMax
namespace Go.Proofs.YtiiikfcipnggeaaDoor
open Go.RowKit Go.ChangeShapes Go.WideShapes Go.ChangeAt
set_option linter.unusedVariables false
set_option linter.unusedSimpArgs false

set_option maxRecDepth 100000 in
set_option maxHeartbeats 8000000 in
theorem sback_walk (x : St) (b : ByteArray) (w : World) (hT : Tabs9 w) :
    Calls Tryd.prog 3 #[stzV x, .string b] w fun e w' => e = .returned (.bool true) ∧ Below w.heap.size w w' := by
  have aw : Hid (∀ W, Below w.heap.size w W → Calls Tryd.prog 6 #[] W fun e w' => e = .returned (.bool true) ∧ Below W.heap.size W w') := Lib.hid (fun W hb => awake_any W (hT.call hb))
  have lx := Lib.hid (fun W => light_any x W)
  have X0 : Hid (∀ (t : TypeId), Bx8 (w.alloc (.cells #[.int .u8 (x.k.toNat : Int), .string x.u, .string x.r, .string x.m, .int .i64 x.s, .int .i64 x.p, .int .i64 x.c, .int .i64 x.n] t)) w.heap.size x) := Lib.hid (fun t => by simp [Bx8, go_sem])
  have NILV : Hid (stzV (St.nil 0) = .agg #[.int .u8 0, .string ⟨#[]⟩, .string ⟨#[]⟩, .string ⟨#[]⟩, .int .i64 0, .int .i64 0, .int .i64 0, .int .i64 0]) := Lib.hid rfl
  have QNIL : ∀ W, (binOp .eql 26 (.agg #[.int .u8 0, .string ⟨#[]⟩, .string ⟨#[]⟩, .string ⟨#[]⟩, .int .i64 0, .int .i64 0, .int .i64 0, .int .i64 0]) (.agg #[.int .u8 0, .string ⟨#[]⟩, .string ⟨#[]⟩, .string ⟨#[]⟩, .int .i64 0, .int .i64 0, .int .i64 0, .int .i64 0])).run Tryd.prog W = .ok (.bool true) W := fun W => by
    have h := eq_stz (St.nil 0) (St.nil 0) W
    rw [sameS_refl] at h
    exact h
  have ZB : Hid (∀ (W2 : World) (bb : Nat) (W1 : World), Below W1.heap.size W1 W2 → (W1.cell? ⟨bb, 0, none⟩ = some (.int .u8 0) ∧ W1.cell? ⟨bb, 1, none⟩ = some (.string ⟨#[]⟩) ∧ W1.cell? ⟨bb, 2, none⟩ = some (.string ⟨#[]⟩) ∧ W1.cell? ⟨bb, 3, none⟩ = some (.string ⟨#[]⟩) ∧ W1.cell? ⟨bb, 4, none⟩ = some (.int .i64 0) ∧ W1.cell? ⟨bb, 5, none⟩ = some (.int .i64 0) ∧ W1.cell? ⟨bb, 6, none⟩ = some (.int .i64 0) ∧ W1.cell? ⟨bb, 7, none⟩ = some (.int .i64 0)) → (W2.cell? ⟨bb, 0, none⟩ = some (.int .u8 0) ∧ W2.cell? ⟨bb, 1, none⟩ = some (.string ⟨#[]⟩) ∧ W2.cell? ⟨bb, 2, none⟩ = some (.string ⟨#[]⟩) ∧ W2.cell? ⟨bb, 3, none⟩ = some (.string ⟨#[]⟩) ∧ W2.cell? ⟨bb, 4, none⟩ = some (.int .i64 0) ∧ W2.cell? ⟨bb, 5, none⟩ = some (.int .i64 0) ∧ W2.cell? ⟨bb, 6, none⟩ = some (.int .i64 0) ∧ W2.cell? ⟨bb, 7, none⟩ = some (.int .i64 0))) := Lib.hid (fun W2 bb W1 hb h => by
    have hl : bb < W1.heap.size := World.block_lt_of_cell? _ _ h.1
    have k := fun o => hb.cell (p := ⟨bb, o, none⟩) hl
    exact ⟨(k 0).trans h.1, (k 1).trans h.2.1, (k 2).trans h.2.2.1, (k 3).trans h.2.2.2.1, (k 4).trans h.2.2.2.2.1, (k 5).trans h.2.2.2.2.2.1, (k 6).trans h.2.2.2.2.2.2.1, (k 7).trans h.2.2.2.2.2.2.2⟩)
  obtain ⟨lb, hlb⟩ : ∃ b, (decide (x.u.size ≤ 100) && (decide (x.r.size ≤ 100) && decide (x.m.size ≤ 100))) = b := ⟨_, rfl⟩
  rw [hlb] at lx
  simp only [stzV] at lx ⊢
  cases lb with
  | false =>
    clear hlb
    go_enter Tryd.func3, Tryd.ntmps3
    go_wp2_with fail
    refine (lx.out _).mono ?_; rintro e w1 ⟨rfl, hb1⟩
    have B1 : Below w.heap.size w w1 := by (repeat (first | (with_reducible exact Below.refl _ _) | ((with_reducible refine below_alloc ?_ ?_ _); · (first | omega | (simp; done) | (simp; omega))) | ((with_reducible refine below_setCell ?_ ?_ _); · (first | omega | (simp; done) | (simp; omega))) | (with_reducible refine Below.drew ?_) | (with_reducible refine below_drewN ?_ _) | ((with_reducible refine below_call (by assumption) ?_ ?_); · (first | omega | (simp; done) | (simp; omega)))))
    have z1 := B1.size
    go_wp2_with fail
    refine (aw.out _ B1).mono ?_; rintro e w2 ⟨rfl, hb2⟩
    have B2 : Below w.heap.size w w2 := by (repeat (first | (with_reducible exact Below.refl _ _) | ((with_reducible refine below_alloc ?_ ?_ _); · (first | omega | (simp; done) | (simp; omega))) | ((with_reducible refine below_setCell ?_ ?_ _); · (first | omega | (simp; done) | (simp; omega))) | (with_reducible refine Below.drew ?_) | (with_reducible refine below_drewN ?_ _) | ((with_reducible refine below_call (by assumption) ?_ ?_); · (first | omega | (simp; done) | (simp; omega)))))
    go_wp2
    go_ret
    exact ⟨rfl, B2⟩
  | true =>
  by_cases hbs : b.size ≤ 200
  case neg =>
    have hbs' : (200 : Int) < b.size := by omega
    clear hlb hbs
    go_enter Tryd.func3, Tryd.ntmps3
    go_wp2_with fail
    refine (lx.out _).mono ?_; rintro e w1 ⟨rfl, hb1⟩
    have B1 : Below w.heap.size w w1 := by (repeat (first | (with_reducible exact Below.refl _ _) | ((with_reducible refine below_alloc ?_ ?_ _); · (first | omega | (simp; done) | (simp; omega))) | ((with_reducible refine below_setCell ?_ ?_ _); · (first | omega | (simp; done) | (simp; omega))) | (with_reducible refine Below.drew ?_) | (with_reducible refine below_drewN ?_ _) | ((with_reducible refine below_call (by assumption) ?_ ?_); · (first | omega | (simp; done) | (simp; omega)))))
    have z1 := B1.size
    go_wp2_with fail
    refine (aw.out _ B1).mono ?_; rintro e w2 ⟨rfl, hb2⟩
    have B2 : Below w.heap.size w w2 := by (repeat (first | (with_reducible exact Below.refl _ _) | ((with_reducible refine below_alloc ?_ ?_ _); · (first | omega | (simp; done) | (simp; omega))) | ((with_reducible refine below_setCell ?_ ?_ _); · (first | omega | (simp; done) | (simp; omega))) | (with_reducible refine Below.drew ?_) | (with_reducible refine below_drewN ?_ _) | ((with_reducible refine below_call (by assumption) ?_ ?_); · (first | omega | (simp; done) | (simp; omega)))))
    go_wp2
    go_ret
    exact ⟨rfl, B2⟩
  have hbs' : ¬ (200 : Int) < b.size := by omega
  have zx : Sml x := by simp only [Bool.and_eq_true, decide_eq_true_eq] at hlb; exact ⟨by omega, by omega, by omega⟩
  have qp := Lib.hid (fun W (hb : Below w.heap.size w W) => sput_any x W (hT.call hb) zx)
  have rb := Lib.hid (fun W (hb : Below w.heap.size w W) => sread_any b W (hT.call hb) (by omega))
  have qz := Lib.hid (fun W (hb : Below w.heap.size w W) => sput_any (rdS b) W (hT.call hb) (sml_read b))
  clear hlb hbs
  by_cases hE : chkS x = 0
  · obtain ⟨s1, s2⟩ := put_size hE
    obtain ⟨r1, r2⟩ := read_put hE
    have r3 := read_less hE
    have r4 : rdE (putT x ++ ⟨#[0]⟩) = 4 := read_more hE (r := [0]) (by decide) (by rw [app_list, put_data hE])
    have rt := Lib.hid (fun W (hb : Below w.heap.size w W) => sread_any (putT x) W (hT.call hb) (by omega))
    have rl := Lib.hid (fun W (hb : Below w.heap.size w W) => sread_any ((putT x).extract 0 ((putT x).size - 1)) W (hT.call hb) (by simp; omega))
    have rm := Lib.hid (fun W (hb : Below w.heap.size w W) => sread_any (putT x ++ ⟨#[0]⟩) W (hT.call hb) (by rw [ByteArray.size_append, show (⟨#[0]⟩ : ByteArray).size = 1 from rfl]; omega))
    have qs := Lib.hid (fun W (hb : Below w.heap.size w W) => ssize_any x W (hT.call hb) zx)
    have QX : ∀ W, (binOp .neq 26 (stzV x) (stzV x)).run Tryd.prog W = .ok (.bool false) W := fun W => by
      have h := neq_stz x x W
      rw [sameS_refl] at h
      exact h
    rw [r1, r2] at rt
    rw [r4] at rm
    rw [hE] at qp
    generalize rdS ((putT x).extract 0 ((putT x).size - 1)) = xl at rl
    generalize rdS (putT x ++ ⟨#[0]⟩) = xm at rm
    have f3 : (rdE ((putT x).extract 0 ((putT x).size - 1)) == 0) = false := by simp [r3]
    generalize rdE ((putT x).extract 0 ((putT x).size - 1)) = el at rl f3
    generalize putT x = t at qp rt rl rm qs s1 s2
    have en := emp_iff t
    rw [decide_eq_false (show ¬ t.size = 0 by omega)] at en
    have s2' : ¬ (128 : Int) < t.size := by omega
    have hw : IntKind.i64.wrap ((t.size : Int) - 1) = ((t.size - 1 : Nat) : Int) := by rw [IntWalk.i64_in _ (by omega)]; omega
    have hw0 : (0 : Int) ≤ ((t.size - 1 : Nat) : Int) := by omega
    have hw1 : ((t.size - 1 : Nat) : Int) ≤ t.size := by omega
    clear hE zx r1 r2 r3 r4
    simp only [stzV] at qp rt rl rm qs QX
    go_enter Tryd.func3, Tryd.ntmps3
    go_wp2_with fail
    refine (lx.out _).mono ?_; rintro e w1 ⟨rfl, hb1⟩
    have B1 : Below w.heap.size w w1 := by (repeat (first | (with_reducible exact Below.refl _ _) | ((with_reducible refine below_alloc ?_ ?_ _); · (first | omega | (simp; done) | (simp; omega))) | ((with_reducible refine below_setCell ?_ ?_ _); · (first | omega | (simp; done) | (simp; omega))) | (with_reducible refine Below.drew ?_) | (with_reducible refine below_drewN ?_ _) | ((with_reducible refine below_call (by assumption) ?_ ?_); · (first | omega | (simp; done) | (simp; omega)))))
    have z1 := B1.size
    obtain ⟨x0, x1, x2, x3, x4, x5, x6, x7⟩ := (X0.out _).call hb1
    go_wp2_with fail
    refine (qp.out _ (by (repeat (first | (with_reducible exact Below.refl _ _) | ((with_reducible refine below_alloc ?_ ?_ _); · (first | omega | (simp; done) | (simp; omega))) | ((with_reducible refine below_setCell ?_ ?_ _); · (first | omega | (simp; done) | (simp; omega))) | (with_reducible refine Below.drew ?_) | (with_reducible refine below_drewN ?_ _) | ((with_reducible refine below_call (by assumption) ?_ ?_); · (first | omega | (simp; done) | (simp; omega))))))).mono ?_; rintro e w2 ⟨rfl, hb2⟩
    have B2 : Below w.heap.size w w2 := by (repeat (first | (with_reducible exact Below.refl _ _) | ((with_reducible refine below_alloc ?_ ?_ _); · (first | omega | (simp; done) | (simp; omega))) | ((with_reducible refine below_setCell ?_ ?_ _); · (first | omega | (simp; done) | (simp; omega))) | (with_reducible refine Below.drew ?_) | (with_reducible refine below_drewN ?_ _) | ((with_reducible refine below_call (by assumption) ?_ ?_); · (first | omega | (simp; done) | (simp; omega)))))
    have z2 := B2.size
    have X2 : Hid (Bx8 w2 w1.heap.size x) := Lib.hid (Bx8.call (by simp [Bx8, go_sem]) hb2)
    clear x0 x1 x2 x3 x4 x5 x6 x7 X0 lx
    go_wp2_with fail
    refine (rt.out _ B2).mono ?_; rintro e w3 ⟨rfl, hb3⟩
    have B3 : Below w.heap.size w w3 := by (repeat (first | (with_reducible exact Below.refl _ _) | ((with_reducible refine below_alloc ?_ ?_ _); · (first | omega | (simp; done) | (simp; omega))) | ((with_reducible refine below_setCell ?_ ?_ _); · (first | omega | (simp; done) | (simp; omega))) | (with_reducible refine Below.drew ?_) | (with_reducible refine below_drewN ?_ _) | ((with_reducible refine below_call (by assumption) ?_ ?_); · (first | omega | (simp; done) | (simp; omega)))))
    have z3 := B3.size
    have X3 := Lib.hid (X2.out.call hb3)
    go_wp2_with fail
    refine (rl.out _ (by (repeat (first | (with_reducible exact Below.refl _ _) | ((with_reducible refine below_alloc ?_ ?_ _); · (first | omega | (simp; done) | (simp; omega))) | ((with_reducible refine below_setCell ?_ ?_ _); · (first | omega | (simp; done) | (simp; omega))) | (with_reducible refine Below.drew ?_) | (with_reducible refine below_drewN ?_ _) | ((with_reducible refine below_call (by assumption) ?_ ?_); · (first | omega | (simp; done) | (simp; omega))))))).mono ?_; rintro e w4 ⟨rfl, hb4⟩
    have g4 : Below w3.heap.size w3 w4 := by (repeat (first | (with_reducible exact Below.refl _ _) | ((with_reducible refine below_alloc ?_ ?_ _); · (first | omega | (simp; done) | (simp; omega))) | ((with_reducible refine below_setCell ?_ ?_ _); · (first | omega | (simp; done) | (simp; omega))) | (with_reducible refine Below.drew ?_) | (with_reducible refine below_drewN ?_ _) | ((with_reducible refine below_call (by assumption) ?_ ?_); · (first | omega | (simp; done) | (simp; omega)))))
    have B4 := below_call g4 B3.size B3
    have z4 := B4.size
    have X4 := Lib.hid (X3.out.call g4)
    have Y4 : Hid (Bx8 w4 w3.heap.size x) := Lib.hid (Bx8.call (by simp [Bx8, go_sem]) hb4)
    go_wp2_with fail
    refine (rm.out _ (by (repeat (first | (with_reducible exact Below.refl _ _) | ((with_reducible refine below_alloc ?_ ?_ _); · (first | omega | (simp; done) | (simp; omega))) | ((with_reducible refine below_setCell ?_ ?_ _); · (first | omega | (simp; done) | (simp; omega))) | (with_reducible refine Below.drew ?_) | (with_reducible refine below_drewN ?_ _) | ((with_reducible refine below_call (by assumption) ?_ ?_); · (first | omega | (simp; done) | (simp; omega))))))).mono ?_; rintro e w5 ⟨rfl, hb5⟩
    have g5 : Below w4.heap.size w4 w5 := by (repeat (first | (with_reducible exact Below.refl _ _) | ((with_reducible refine below_alloc ?_ ?_ _); · (first | omega | (simp; done) | (simp; omega))) | ((with_reducible refine below_setCell ?_ ?_ _); · (first | omega | (simp; done) | (simp; omega))) | (with_reducible refine Below.drew ?_) | (with_reducible refine below_drewN ?_ _) | ((with_reducible refine below_call (by assumption) ?_ ?_); · (first | omega | (simp; done) | (simp; omega)))))
    have B5 := below_call g5 B4.size B4
    have z5 := B5.size
    have X5 := Lib.hid (X4.out.call g5)
    have Y5 := Lib.hid (Y4.out.call g5)
    have lX := X5.out.lt
    have lY := Y5.out.lt
    obtain ⟨x0, x1, x2, x3, x4, x5, x6, x7⟩ := id X5.out
    obtain ⟨y0, y1, y2, y3, y4, y5, y6, y7⟩ := id Y5.out
    go_wp2_with fail
    refine (qs.out _ (by (repeat (first | (with_reducible exact Below.refl _ _) | ((with_reducible refine below_alloc ?_ ?_ _); · (first | omega | (simp; done) | (simp; omega))) | ((with_reducible refine below_setCell ?_ ?_ _); · (first | omega | (simp; done) | (simp; omega))) | (with_reducible refine Below.drew ?_) | (with_reducible refine below_drewN ?_ _) | ((with_reducible refine below_call (by assumption) ?_ ?_); · (first | omega | (simp; done) | (simp; omega))))))).mono ?_; rintro e w6 ⟨rfl, hb6⟩
    have B6 : Below w.heap.size w w6 := by (repeat (first | (with_reducible exact Below.refl _ _) | ((with_reducible refine below_alloc ?_ ?_ _); · (first | omega | (simp; done) | (simp; omega))) | ((with_reducible refine below_setCell ?_ ?_ _); · (first | omega | (simp; done) | (simp; omega))) | (with_reducible refine Below.drew ?_) | (with_reducible refine below_drewN ?_ _) | ((with_reducible refine below_call (by assumption) ?_ ?_); · (first | omega | (simp; done) | (simp; omega)))))
    have z6 := B6.size
    clear x0 x1 x2 x3 x4 x5 x6 x7 y0 y1 y2 y3 y4 y5 y6 y7 lX lY X2 X3 X4 X5 Y4 Y5 qs rm rl rt qp hb1 hb2 hb3 hb4 hb5 hb6 g4 g5 QX
    by_cases hr : rdE b = 0
    · have hp := put_read hr
      rw [hr] at rb
      rw [hp.1, hp.2] at qz
      have eb : (b.toList == b.toList) = true := by simp
      clear hp hr ZB
      generalize rdS b = zz at rb qz
      simp only [stzV] at rb qz
      go_wp2_with fail
      refine (rb.out _ B6).mono ?_; rintro e w7 ⟨rfl, hb7⟩
      have B7 := below_call hb7 B6.size B6
      have z7 := B7.size
      go_wp2_with fail
      refine (qz.out _ (by (repeat (first | (with_reducible exact Below.refl _ _) | ((with_reducible refine below_alloc ?_ ?_ _); · (first | omega | (simp; done) | (simp; omega))) | ((with_reducible refine below_setCell ?_ ?_ _); · (first | omega | (simp; done) | (simp; omega))) | (with_reducible refine Below.drew ?_) | (with_reducible refine below_drewN ?_ _) | ((with_reducible refine below_call (by assumption) ?_ ?_); · (first | omega | (simp; done) | (simp; omega))))))).mono ?_; rintro e w8 ⟨rfl, hb8⟩
      have B8 : Below w.heap.size w w8 := by (repeat (first | (with_reducible exact Below.refl _ _) | ((with_reducible refine below_alloc ?_ ?_ _); · (first | omega | (simp; done) | (simp; omega))) | ((with_reducible refine below_setCell ?_ ?_ _); · (first | omega | (simp; done) | (simp; omega))) | (with_reducible refine Below.drew ?_) | (with_reducible refine below_drewN ?_ _) | ((with_reducible refine below_call (by assumption) ?_ ?_); · (first | omega | (simp; done) | (simp; omega)))))
      have z8 := B8.size
      go_wp2_with fail
      refine (aw.out _ B8).mono ?_; rintro e w9 ⟨rfl, hb9⟩
      have B9 := below_call hb9 B8.size B8
      go_wp2
      go_ret
      exact ⟨rfl, B9⟩
    · have e0 : (rdE b != 0) = true := by simp [hr]
      have e1 : (rdE b == 0) = false := by simp [hr]
      rw [rdS_no hr] at rb qz
      generalize chkS (St.nil 0) = cz at qz
      generalize putT (St.nil 0) = pz at qz
      generalize rdE b = re at rb e0 e1
      simp only [NILV.out] at rb qz
      clear hr
      go_wp2_with fail
      refine (rb.out _ B6).mono ?_; rintro e w7 ⟨rfl, hb7⟩
      have B7 := below_call hb7 B6.size B6
      have z7 := B7.size
      go_wp2_with fail
      refine (qz.out _ (by (repeat (first | (with_reducible exact Below.refl _ _) | ((with_reducible refine below_alloc ?_ ?_ _); · (first | omega | (simp; done) | (simp; omega))) | ((with_reducible refine below_setCell ?_ ?_ _); · (first | omega | (simp; done) | (simp; omega))) | (with_reducible refine Below.drew ?_) | (with_reducible refine below_drewN ?_ _) | ((with_reducible refine below_call (by assumption) ?_ ?_); · (first | omega | (simp; done) | (simp; omega))))))).mono ?_; rintro e w8 ⟨rfl, hb8⟩
      have B8 : Below w.heap.size w w8 := by (repeat (first | (with_reducible exact Below.refl _ _) | ((with_reducible refine below_alloc ?_ ?_ _); · (first | omega | (simp; done) | (simp; omega))) | ((with_reducible refine below_setCell ?_ ?_ _); · (first | omega | (simp; done) | (simp; omega))) | (with_reducible refine Below.drew ?_) | (with_reducible refine below_drewN ?_ _) | ((with_reducible refine below_call (by assumption) ?_ ?_); · (first | omega | (simp; done) | (simp; omega)))))
      have z8 := B8.size
      obtain ⟨v0, v1, v2, v3, v4, v5, v6, v7⟩ := ZB.out w8 w7.heap.size _ hb8 (by simp [go_sem])
      go_wp2_with fail
      refine (aw.out _ B8).mono ?_; rintro e w9 ⟨rfl, hb9⟩
      have B9 := below_call hb9 B8.size B8
      go_wp2
      go_ret
      exact ⟨rfl, B9⟩
  · have n0 : (chkS x == 0) = false := by simp [hE]
    generalize chkS x = E at qp n0
    generalize putT x = t at qp
    clear hE zx
    simp only [stzV] at qp
    go_enter Tryd.func3, Tryd.ntmps3
    go_wp2_with fail
    refine (lx.out _).mono ?_; rintro e w1 ⟨rfl, hb1⟩
    have B1 : Below w.heap.size w w1 := by (repeat (first | (with_reducible exact Below.refl _ _) | ((with_reducible refine below_alloc ?_ ?_ _); · (first | omega | (simp; done) | (simp; omega))) | ((with_reducible refine below_setCell ?_ ?_ _); · (first | omega | (simp; done) | (simp; omega))) | (with_reducible refine Below.drew ?_) | (with_reducible refine below_drewN ?_ _) | ((with_reducible refine below_call (by assumption) ?_ ?_); · (first | omega | (simp; done) | (simp; omega)))))
    have z1 := B1.size
    obtain ⟨x0, x1, x2, x3, x4, x5, x6, x7⟩ := (X0.out _).call hb1
    go_wp2_with fail
    refine (qp.out _ (by (repeat (first | (with_reducible exact Below.refl _ _) | ((with_reducible refine below_alloc ?_ ?_ _); · (first | omega | (simp; done) | (simp; omega))) | ((with_reducible refine below_setCell ?_ ?_ _); · (first | omega | (simp; done) | (simp; omega))) | (with_reducible refine Below.drew ?_) | (with_reducible refine below_drewN ?_ _) | ((with_reducible refine below_call (by assumption) ?_ ?_); · (first | omega | (simp; done) | (simp; omega))))))).mono ?_; rintro e w2 ⟨rfl, hb2⟩
    have B2 : Below w.heap.size w w2 := by (repeat (first | (with_reducible exact Below.refl _ _) | ((with_reducible refine below_alloc ?_ ?_ _); · (first | omega | (simp; done) | (simp; omega))) | ((with_reducible refine below_setCell ?_ ?_ _); · (first | omega | (simp; done) | (simp; omega))) | (with_reducible refine Below.drew ?_) | (with_reducible refine below_drewN ?_ _) | ((with_reducible refine below_call (by assumption) ?_ ?_); · (first | omega | (simp; done) | (simp; omega)))))
    have z2 := B2.size
    clear x0 x1 x2 x3 x4 x5 x6 x7 X0 lx qp hb1 hb2
    by_cases hr : rdE b = 0
    · have hp := put_read hr
      rw [hr] at rb
      rw [hp.1, hp.2] at qz
      have eb : (b.toList == b.toList) = true := by simp
      clear hp hr ZB
      generalize rdS b = zz at rb qz
      simp only [stzV] at rb qz
      go_wp2_with fail
      refine (rb.out _ B2).mono ?_; rintro e w3 ⟨rfl, hb3⟩
      have B3 := below_call hb3 B2.size B2
      have z3 := B3.size
      go_wp2_with fail
      refine (qz.out _ (by (repeat (first | (with_reducible exact Below.refl _ _) | ((with_reducible refine below_alloc ?_ ?_ _); · (first | omega | (simp; done) | (simp; omega))) | ((with_reducible refine below_setCell ?_ ?_ _); · (first | omega | (simp; done) | (simp; omega))) | (with_reducible refine Below.drew ?_) | (with_reducible refine below_drewN ?_ _) | ((with_reducible refine below_call (by assumption) ?_ ?_); · (first | omega | (simp; done) | (simp; omega))))))).mono ?_; rintro e w4 ⟨rfl, hb4⟩
      have B4 : Below w.heap.size w w4 := by (repeat (first | (with_reducible exact Below.refl _ _) | ((with_reducible refine below_alloc ?_ ?_ _); · (first | omega | (simp; done) | (simp; omega))) | ((with_reducible refine below_setCell ?_ ?_ _); · (first | omega | (simp; done) | (simp; omega))) | (with_reducible refine Below.drew ?_) | (with_reducible refine below_drewN ?_ _) | ((with_reducible refine below_call (by assumption) ?_ ?_); · (first | omega | (simp; done) | (simp; omega)))))
      have z4 := B4.size
      go_wp2_with fail
      refine (aw.out _ B4).mono ?_; rintro e w5 ⟨rfl, hb5⟩
      have B5 := below_call hb5 B4.size B4
      go_wp2
      go_ret
      exact ⟨rfl, B5⟩
    · have e0 : (rdE b != 0) = true := by simp [hr]
      have e1 : (rdE b == 0) = false := by simp [hr]
      rw [rdS_no hr] at rb qz
      generalize chkS (St.nil 0) = cz at qz
      generalize putT (St.nil 0) = pz at qz
      generalize rdE b = re at rb e0 e1
      simp only [NILV.out] at rb qz
      clear hr
      go_wp2_with fail
      refine (rb.out _ B2).mono ?_; rintro e w3 ⟨rfl, hb3⟩
      have B3 := below_call hb3 B2.size B2
      have z3 := B3.size
      go_wp2_with fail
      refine (qz.out _ (by (repeat (first | (with_reducible exact Below.refl _ _) | ((with_reducible refine below_alloc ?_ ?_ _); · (first | omega | (simp; done) | (simp; omega))) | ((with_reducible refine below_setCell ?_ ?_ _); · (first | omega | (simp; done) | (simp; omega))) | (with_reducible refine Below.drew ?_) | (with_reducible refine below_drewN ?_ _) | ((with_reducible refine below_call (by assumption) ?_ ?_); · (first | omega | (simp; done) | (simp; omega))))))).mono ?_; rintro e w4 ⟨rfl, hb4⟩
      have B4 : Below w.heap.size w w4 := by (repeat (first | (with_reducible exact Below.refl _ _) | ((with_reducible refine below_alloc ?_ ?_ _); · (first | omega | (simp; done) | (simp; omega))) | ((with_reducible refine below_setCell ?_ ?_ _); · (first | omega | (simp; done) | (simp; omega))) | (with_reducible refine Below.drew ?_) | (with_reducible refine below_drewN ?_ _) | ((with_reducible refine below_call (by assumption) ?_ ?_); · (first | omega | (simp; done) | (simp; omega)))))
      have z4 := B4.size
      obtain ⟨v0, v1, v2, v3, v4, v5, v6, v7⟩ := ZB.out w4 w3.heap.size _ hb4 (by simp [go_sem])
      go_wp2_with fail
      refine (aw.out _ B4).mono ?_; rintro e w5 ⟨rfl, hb5⟩
      have B5 := below_call hb5 B4.size B4
      go_wp2
      go_ret
      exact ⟨rfl, B5⟩

set_option maxRecDepth 100000 in
theorem sback_lifted (os : Os) (started : os.Started) (H : Type) (enc : TypeId × Value → H) :
    ReturnsInHanded {} Tryd.checked os 3 .any (fun w args => (Rows.stanzaBackSpec.pre enc Tryd.prog Tryd.f3 Rows.stanzaBackRow.domain false w args ∧ laidMetH Tryd.prog laidU8 w) ∧ sizedMet enc Tryd.prog Tryd.f3 (OpenSpec.ofChange Rows.stanzaBackSpec) false w args)
      (Rows.stanzaBackSpec.post enc Tryd.prog Tryd.f3 false true false false) := by
  refine handed_shape (Pre' := fun w args => (Rows.stanzaBackSpec.pre enc Tryd.prog Tryd.f3 Rows.stanzaBackRow.domain false w args ∧ (laidMetH Tryd.prog laidU8 w ∧ Maxs w)) ∧ sizedMet enc Tryd.prog Tryd.f3 (OpenSpec.ofChange Rows.stanzaBackSpec) false w args) (fun w args hs h => ⟨⟨h.1.1, h.1.2, maxs_of_shape hs⟩, h.2⟩) (fun w args h => ⟨⟨h.1.1, h.1.2.1⟩, h.2⟩) ?_
  refine returnsInHanded_of_change_and (C := Tryd.checked) (X := fun w _ => laidMetH Tryd.prog laidU8 w ∧ Maxs w) (fun _ _ _ hh h => ⟨h.1.of_heap hh, h.2.of_heap hh⟩) own started (by kernel_rfl) Tryd.func3
    (ChangeSpec.witness_shaped (enc := enc) (C := Tryd.checked) (os := os) (X := fun w _ => laidMetH Tryd.prog laidU8 w ∧ Maxs w) false (World.laidAll Tryd.prog os laidU8) #[.agg #[.int .u8 0, .string ⟨#[]⟩, .string ⟨#[]⟩, .string ⟨#[]⟩, .int .i64 0, .int .i64 0, .int .i64 0, .int .i64 0], .string ⟨#[]⟩] 8 (World.laidAll_os _ _ _)
      (World.shaped_of_ZipB (by kernel_rfl) (by kernel_rfl)) (by kernel_rfl) (by kernel_rfl) (by kernel_rfl)
      ⟨by rw [MakeChecks.laidMetH_plain _ _ _ (by kernel_rfl)]; exact laidMet_laidAll _ (by kernel_rfl) (by kernel_rfl), maxs_laid os⟩) ?_
  intro W base args ds gs before hval0 hW _ _ hLM _
  obtain ⟨hL, hM⟩ := hLM
  have hval : ∀ (j : Nat) t v, Tryd.f3.params[j]? = some t → args[j]? = some v → Value.okWide Tryd.prog W .any base t v := hval0
  have hW' := hW
  obtain ⟨p, q, hA0, hV, rfl, hfz, hnd⟩ := hW
  have hA : DataW.TrodAll enc Tryd.prog W 0 (fun _ => true) true Tryd.f3.params.toList args.toList ds p := hA0
  rw [Tryd.params3] at hA hval
  obtain ⟨v0, vs0, d0, ds0, p0, q0, hargs, rfl, rfl, h0, r0⟩ := trodAll_cons hA
  obtain ⟨v1, vs1, d1, ds1, p1, q1, rfl, rfl, rfl, h1, r1⟩ := trodAll_cons r0
  obtain ⟨rfl, rfl, rfl⟩ := trodAll_nil r1
  obtain rfl : args = #[v0, v1] := by cases args; simp_all
  obtain ⟨rfl, rfl⟩ := trodVars_none hV
  obtain ⟨x, rfl⟩ := open_stanza (hval 0 23 v0 rfl rfl) h0
  obtain ⟨b, rfl, rfl, rfl, _⟩ := Go.ChangeMaps.open_string Tryd.underlying9 (hval 1 9 v1 rfl rfl) h1
  refine (sback_walk x b W ⟨tabs_of_laid hL, hM⟩).mono fun e W' ⟨he, hb⟩ => ?_
  subst he
  exact ⟨_, rfl, law_post rfl rfl Tryd.underlying4 (by kernel_rfl) rfl hW' hb⟩
theorem sback_holds : Rows.StanzaBackSaid :=
  OpenClaim.holds_of_wide 3 Tryd.f3 rfl rfl rfl rfl rfl rfl rfl ⟨rfl, rfl, rfl, rfl, rfl⟩ rfl rfl rfl rfl rfl (by kernel_rfl) Tryd.func3 (by kernel_rfl)
    (of_decide_eq_true (by kernel_rfl)) (by unfold Func.isWrapper; first | (rw [if_pos (by decide +kernel)]; kernel_rfl) | (rw [if_neg (by decide +kernel)]; exact ⟨rfl, rfl⟩))
    (fun os started H enc _ => sback_lifted os started H enc)
theorem sback_card : Rows.StanzaBackCardSaid :=
  Claim7.holds_tied_plain_at .later [] [.data, .pinned] true Rows.stanzaBackCard.stood.harness false sback_holds (fun _ h => by cases h) (by kernel_rfl) (fun _ h => by cases h) stanzaBack_row_tie rfl ⟨rfl, rfl⟩ (by kernel_rfl) rfl
    (fun f fn hf hfn => by
      obtain rfl : f = 3 := Option.some.inj ((show Tryd.prog.funcNamed "callboy/callboylaw10.StanzaBack" = some 3 by kernel_rfl).symm.trans hf) |>.symm
      obtain rfl : fn = Tryd.f3 := (Option.some.inj (Tryd.func3.symm.trans hfn)).symm
      exact ⟨by kernel_rfl, fun j t ht => by
        rw [Tryd.params3] at ht
        have hm : t ∈ [23, 9] := by simpa using Array.mem_of_getElem? ht
        have hall : ([23, 9].all fun u => !Tryd.prog.wantsStandIn u) = true := by kernel_rfl
        exact (show Tryd.prog.wantsStandIn t = false by simpa using List.all_eq_true.1 hall t hm)⟩)
    (by kernel_rfl)
end Go.Proofs.YtiiikfcipnggeaaDoor
