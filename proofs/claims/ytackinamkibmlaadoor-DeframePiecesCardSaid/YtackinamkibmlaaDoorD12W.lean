/- Layer 12: awake: what every right program tells of some bytes. -/
import Derived.Test.YtackinamkibmlaaDoorD12TS
import Derived.Test.YtackinamkibmlaaDoorLawOpen10
namespace Go.Proofs.YtackinamkibmlaaDoor
open Go.RowKit
set_option linter.unusedVariables false
set_option linter.unusedSimpArgs false

theorem k_d1 (w : World) (hT : Tabs9 w) : Calls Tryd.prog 6 #[.agg #[.string ⟨#[]⟩, .int .i64 0, .int .i64 0], .string ⟨#[0, 1]⟩] w fun e w' => ∃ v, e = .returned (.tuple #[.agg #[.string ⟨#[0, 1]⟩, .int .i64 0, .int .i64 0], v]) ∧ OwnR 45 9 itC w' w.heap.size v ([] : List It) ∧ Below w.heap.size w w' := by
  have h := dfeed_any (⟨⟨#[]⟩, 0, 0⟩ : Ds) ⟨#[0, 1]⟩ w hT (by decide) (by decide)
  rw [show txS (⟨⟨#[]⟩, 0, 0⟩ : Ds) (⟨#[0, 1]⟩ : ByteArray).data.toList = (⟨⟨#[0, 1]⟩, 0, 0⟩ : Ds) from by decide +kernel, show (txL (⟨⟨#[]⟩, 0, 0⟩ : Ds) (⟨#[0, 1]⟩ : ByteArray).data.toList).map itD = ([] : List It) from by decide +kernel] at h
  exact h
theorem k_d2 (w : World) (hT : Tabs9 w) : Calls Tryd.prog 6 #[.agg #[.string ⟨#[0, 1]⟩, .int .i64 0, .int .i64 0], .string ⟨#[2, 0, 2, 16, 120, 0]⟩] w fun e w' => ∃ v, e = .returned (.tuple #[.agg #[.string ⟨#[0]⟩, .int .i64 0, .int .i64 2], v]) ∧ OwnR 45 9 itC w' w.heap.size v ([(St.nil 2, 0), (St.nil 0, 12)] : List It) ∧ Below w.heap.size w w' := by
  have h := dfeed_any (⟨⟨#[0, 1]⟩, 0, 0⟩ : Ds) ⟨#[2, 0, 2, 16, 120, 0]⟩ w hT (by decide) (by decide)
  rw [show txS (⟨⟨#[0, 1]⟩, 0, 0⟩ : Ds) (⟨#[2, 0, 2, 16, 120, 0]⟩ : ByteArray).data.toList = (⟨⟨#[0]⟩, 0, 2⟩ : Ds) from by decide +kernel, show (txL (⟨⟨#[0, 1]⟩, 0, 0⟩ : Ds) (⟨#[2, 0, 2, 16, 120, 0]⟩ : ByteArray).data.toList).map itD = ([(St.nil 2, 0), (St.nil 0, 12)] : List It) from by decide +kernel] at h
  exact h
theorem k_d3 (w : World) (hT : Tabs9 w) : Calls Tryd.prog 6 #[.agg #[.string ⟨#[0]⟩, .int .i64 0, .int .i64 2], .string ⟨#[0, 120]⟩] w fun e w' => ∃ v, e = .returned (.tuple #[.agg #[.string ⟨#[]⟩, .int .i64 4, .int .i64 2], v]) ∧ OwnR 45 9 itC w' w.heap.size v ([] : List It) ∧ Below w.heap.size w w' := by
  have h := dfeed_any (⟨⟨#[0]⟩, 0, 2⟩ : Ds) ⟨#[0, 120]⟩ w hT (by decide) (by decide)
  rw [show txS (⟨⟨#[0]⟩, 0, 2⟩ : Ds) (⟨#[0, 120]⟩ : ByteArray).data.toList = (⟨⟨#[]⟩, 4, 2⟩ : Ds) from by decide +kernel, show (txL (⟨⟨#[0]⟩, 0, 2⟩ : Ds) (⟨#[0, 120]⟩ : ByteArray).data.toList).map itD = ([] : List It) from by decide +kernel] at h
  exact h
theorem k_d4 (w : World) : Calls Tryd.prog 14 #[.agg #[.string ⟨#[]⟩, .int .i64 4, .int .i64 2], .string ⟨#[0, 1, 2]⟩] w fun e w' => ∃ v, e = .returned (.tuple #[.agg #[.string ⟨#[]⟩, .int .i64 4, .int .i64 2], v]) ∧ OwnS w' w.heap.size v [] ∧ Below w.heap.size w w' := by
  have h := dtexts_any (⟨⟨#[]⟩, 4, 2⟩ : Ds) ⟨#[0, 1, 2]⟩ w (by decide) (by decide)
  rw [show txS (⟨⟨#[]⟩, 4, 2⟩ : Ds) (⟨#[0, 1, 2]⟩ : ByteArray).data.toList = (⟨⟨#[]⟩, 4, 2⟩ : Ds) from by decide +kernel, show txL (⟨⟨#[]⟩, 4, 2⟩ : Ds) (⟨#[0, 1, 2]⟩ : ByteArray).data.toList = [] from by decide +kernel] at h
  exact h
theorem k_d5 (v : Value) (w : World) (hT : Tabs9 w) (hv : IsR 8 stC w v [(⟨2, ⟨#[]⟩, ⟨#[]⟩, ⟨#[]⟩, 0, 0, 0, 0⟩ : St), (⟨15, ⟨#[]⟩, ⟨#[]⟩, ⟨#[]⟩, 0, 0, 0, 1⟩ : St)]) : Calls Tryd.prog 12 #[v] w fun e w' => e = .returned (.tuple #[.string ⟨#[0, 1, 2, 0, 7, 15, 0, 0, 0, 0, 0, 1]⟩, .int .i64 0]) ∧ Below w.heap.size w w' := by
  have h := denc_any v [(⟨2, ⟨#[]⟩, ⟨#[]⟩, ⟨#[]⟩, 0, 0, 0, 0⟩ : St), (⟨15, ⟨#[]⟩, ⟨#[]⟩, ⟨#[]⟩, 0, 0, 0, 1⟩ : St)] w hT hv (by simp) (by intro x hx; simp at hx; rcases hx with rfl | rfl <;> exact ⟨by decide, by decide, by decide⟩)
  rw [show enT [(⟨2, ⟨#[]⟩, ⟨#[]⟩, ⟨#[]⟩, 0, 0, 0, 0⟩ : St), (⟨15, ⟨#[]⟩, ⟨#[]⟩, ⟨#[]⟩, 0, 0, 0, 1⟩ : St)] = ⟨#[0, 1, 2, 0, 7, 15, 0, 0, 0, 0, 0, 1]⟩ from by decide +kernel, show enE [(⟨2, ⟨#[]⟩, ⟨#[]⟩, ⟨#[]⟩, 0, 0, 0, 0⟩ : St), (⟨15, ⟨#[]⟩, ⟨#[]⟩, ⟨#[]⟩, 0, 0, 0, 1⟩ : St)] = 0 from by decide +kernel] at h
  exact h
theorem k_d6 (v : Value) (w : World) (hT : Tabs9 w) (hv : IsR 8 stC w v [(⟨0, ⟨#[]⟩, ⟨#[]⟩, ⟨#[]⟩, 0, 0, 0, 0⟩ : St)]) : Calls Tryd.prog 12 #[v] w fun e w' => e = .returned (.tuple #[.string ⟨#[]⟩, .int .i64 12]) ∧ Below w.heap.size w w' := by
  have h := denc_any v [(⟨0, ⟨#[]⟩, ⟨#[]⟩, ⟨#[]⟩, 0, 0, 0, 0⟩ : St)] w hT hv (by simp) (by intro x hx; simp at hx; subst hx <;> exact ⟨by decide, by decide, by decide⟩)
  rw [show enT [(⟨0, ⟨#[]⟩, ⟨#[]⟩, ⟨#[]⟩, 0, 0, 0, 0⟩ : St)] = ⟨#[]⟩ from by decide +kernel, show enE [(⟨0, ⟨#[]⟩, ⟨#[]⟩, ⟨#[]⟩, 0, 0, 0, 0⟩ : St)] = 12 from by decide +kernel] at h
  exact h
theorem k_d7 (w : World) : Calls Tryd.prog 13 #[.agg #[.string ⟨#[0, 1]⟩, .int .i64 0, .int .i64 0]] w fun e w' => e = .returned (.int .i64 1) ∧ Below w.heap.size w w' := by
  have h := dneed_any (⟨⟨#[0, 1]⟩, 0, 0⟩ : Ds) w (by decide)
  rw [show needD (⟨⟨#[0, 1]⟩, 0, 0⟩ : Ds) = 1 from by decide +kernel] at h
  exact h
theorem k_d8 (w : World) : Calls Tryd.prog 13 #[.agg #[.string ⟨#[0]⟩, .int .i64 0, .int .i64 2]] w fun e w' => e = .returned (.int .i64 1) ∧ Below w.heap.size w w' := by
  have h := dneed_any (⟨⟨#[0]⟩, 0, 2⟩ : Ds) w (by decide)
  rw [show needD (⟨⟨#[0]⟩, 0, 2⟩ : Ds) = 1 from by decide +kernel] at h
  exact h
theorem k_d9 (w : World) : Calls Tryd.prog 7 #[.agg #[.string ⟨#[0]⟩, .int .i64 0, .int .i64 2]] w fun e w' => e = .returned (.int .i64 0) ∧ Below w.heap.size w w' := by
  have h := dcheck_any (⟨⟨#[0]⟩, 0, 2⟩ : Ds) w (by decide)
  rw [show chkD (⟨⟨#[0]⟩, 0, 2⟩ : Ds) = 0 from by decide +kernel] at h
  exact h
theorem k_d10 (w : World) : Calls Tryd.prog 7 #[.agg #[.string ⟨#[]⟩, .int .i64 0, .int .i64 (-1)]] w fun e w' => e = .returned (.int .i64 8) ∧ Below w.heap.size w w' := by
  have h := dcheck_any (⟨⟨#[]⟩, 0, -1⟩ : Ds) w (by decide)
  rw [show chkD (⟨⟨#[]⟩, 0, -1⟩ : Ds) = 8 from by decide +kernel] at h
  exact h

set_option maxRecDepth 100000 in
set_option maxHeartbeats 8000000 in
theorem awake_any (w : World) (hT : Tabs9 w) : Calls Tryd.prog 5 #[] w fun e w' => e = .returned (.bool true) ∧ Below w.heap.size w w' := by
  have qe : ∀ W, (binOp .eql 25 (.agg #[.string ⟨#[]⟩, .int .i64 4, .int .i64 2]) (.agg #[.string ⟨#[]⟩, .int .i64 4, .int .i64 2])).run Tryd.prog W = .ok (.bool true) W := fun W => by
    have h := eq_dst (⟨⟨#[]⟩, 4, 2⟩ : Ds) (⟨⟨#[]⟩, 4, 2⟩ : Ds) W
    rw [show (decide (((⟨⟨#[]⟩, 4, 2⟩ : Ds)).buf = ((⟨⟨#[]⟩, 4, 2⟩ : Ds)).buf ∧ ((⟨⟨#[]⟩, 4, 2⟩ : Ds)).bad = ((⟨⟨#[]⟩, 4, 2⟩ : Ds)).bad ∧ ((⟨⟨#[]⟩, 4, 2⟩ : Ds)).seen = ((⟨⟨#[]⟩, 4, 2⟩ : Ds)).seen)) = true from by decide +kernel] at h
    exact h
  go_enter Tryd.func5, Tryd.ntmps5
  go_wp2_with fail
  refine (k_d1 _ hT).mono ?_; rintro e w1 ⟨v1, rfl, ho1, hb1⟩
  obtain ⟨p1, c1, rfl⟩ := ho1.form
  have B1 := hb1
  have z1 := B1.size
  clear ho1
  go_wp2_with fail
  refine (k_d2 _ (hT.call (by (repeat (first | (with_reducible exact Below.refl _ _) | ((with_reducible refine below_alloc ?_ ?_ _); · (first | omega | (simp; done) | (simp; omega))) | ((with_reducible refine below_setCell ?_ ?_ _); · (first | omega | (simp; done) | (simp; omega))) | (with_reducible refine Below.drew ?_) | (with_reducible refine below_drewN ?_ _) | ((with_reducible refine below_call (by assumption) ?_ ?_); · (first | omega | (simp; done) | (simp; omega)))))))).mono ?_; rintro e w2 ⟨v2, rfl, ho2, hb2⟩
  obtain ⟨p2, c2, rfl⟩ := ho2.form
  have B2 : Below w.heap.size w w2 := by (repeat (first | (with_reducible exact Below.refl _ _) | ((with_reducible refine below_alloc ?_ ?_ _); · (first | omega | (simp; done) | (simp; omega))) | ((with_reducible refine below_setCell ?_ ?_ _); · (first | omega | (simp; done) | (simp; omega))) | (with_reducible refine Below.drew ?_) | (with_reducible refine below_drewN ?_ _) | ((with_reducible refine below_call (by assumption) ?_ ?_); · (first | omega | (simp; done) | (simp; omega)))))
  have z2 := B2.size
  have XA : Hid (Row3 w2 w1.heap.size (.string ⟨#[0, 1]⟩) (.int .i64 0) (.int .i64 0)) := Lib.hid (Row3.call (by simp [Row3, go_sem]) hb2 (by simp))
  have y1 := XA.out.lt
  have OM := Lib.hid ho2
  clear ho2
  go_wp2_with fail
  refine (k_d3 _ (hT.call (by (repeat (first | (with_reducible exact Below.refl _ _) | ((with_reducible refine below_alloc ?_ ?_ _); · (first | omega | (simp; done) | (simp; omega))) | ((with_reducible refine below_setCell ?_ ?_ _); · (first | omega | (simp; done) | (simp; omega))) | (with_reducible refine Below.drew ?_) | (with_reducible refine below_drewN ?_ _) | ((with_reducible refine below_call (by assumption) ?_ ?_); · (first | omega | (simp; done) | (simp; omega)))))))).mono ?_; rintro e w3 ⟨v3, rfl, ho3, hb3⟩
  obtain ⟨p3, c3, rfl⟩ := ho3.form
  have g3 : Below w2.heap.size w2 w3 := by (repeat (first | (with_reducible exact Below.refl _ _) | ((with_reducible refine below_alloc ?_ ?_ _); · (first | omega | (simp; done) | (simp; omega))) | ((with_reducible refine below_setCell ?_ ?_ _); · (first | omega | (simp; done) | (simp; omega))) | (with_reducible refine Below.drew ?_) | (with_reducible refine below_drewN ?_ _) | ((with_reducible refine below_call (by assumption) ?_ ?_); · (first | omega | (simp; done) | (simp; omega)))))
  have B3 : Below w.heap.size w w3 := by (repeat (first | (with_reducible exact Below.refl _ _) | ((with_reducible refine below_alloc ?_ ?_ _); · (first | omega | (simp; done) | (simp; omega))) | ((with_reducible refine below_setCell ?_ ?_ _); · (first | omega | (simp; done) | (simp; omega))) | (with_reducible refine Below.drew ?_) | (with_reducible refine below_drewN ?_ _) | ((with_reducible refine below_call (by assumption) ?_ ?_); · (first | omega | (simp; done) | (simp; omega)))))
  have z3 := B3.size
  have XB : Hid (Row3 w3 w2.heap.size (.string ⟨#[0]⟩) (.int .i64 0) (.int .i64 2)) := Lib.hid (Row3.call (by simp [Row3, go_sem]) hb3 (by simp))
  have XA3 := Lib.hid (XA.out.call g3 y1)
  have OM3 := Lib.hid (OM.out.call g3)
  have y2 := XB.out.lt
  clear ho3 XA OM
  go_wp2_with fail
  refine (k_d4 _).mono ?_; rintro e w4 ⟨v4, rfl, ho4, hb4⟩
  obtain ⟨p4, c4, rfl⟩ : ∃ p c, v4 = .slice p 0 c := by
    obtain ⟨p, c, h, _⟩ := ho4.reads
    exact ⟨p, c, h⟩
  have g4 : Below w3.heap.size w3 w4 := by (repeat (first | (with_reducible exact Below.refl _ _) | ((with_reducible refine below_alloc ?_ ?_ _); · (first | omega | (simp; done) | (simp; omega))) | ((with_reducible refine below_setCell ?_ ?_ _); · (first | omega | (simp; done) | (simp; omega))) | (with_reducible refine Below.drew ?_) | (with_reducible refine below_drewN ?_ _) | ((with_reducible refine below_call (by assumption) ?_ ?_); · (first | omega | (simp; done) | (simp; omega)))))
  have B4 : Below w.heap.size w w4 := by (repeat (first | (with_reducible exact Below.refl _ _) | ((with_reducible refine below_alloc ?_ ?_ _); · (first | omega | (simp; done) | (simp; omega))) | ((with_reducible refine below_setCell ?_ ?_ _); · (first | omega | (simp; done) | (simp; omega))) | (with_reducible refine Below.drew ?_) | (with_reducible refine below_drewN ?_ _) | ((with_reducible refine below_call (by assumption) ?_ ?_); · (first | omega | (simp; done) | (simp; omega)))))
  have z4 := B4.size
  have XC : Hid (Row3 w4 w3.heap.size (.string ⟨#[]⟩) (.int .i64 4) (.int .i64 2)) := Lib.hid (Row3.call (by simp [Row3, go_sem]) hb4 (by simp))
  have XA4 := Lib.hid (XA3.out.call g4 (by have := XA3.out.lt; omega))
  have XB4 := Lib.hid (XB.out.call g4 y2)
  have OM4 := Lib.hid (OM3.out.call g4)
  have y3 := XC.out.lt
  clear ho4 XA3 XB OM3
  go_wp2_with fail
  refine (k_d5 _ _ (hT.call (by (repeat (first | (with_reducible exact Below.refl _ _) | ((with_reducible refine below_alloc ?_ ?_ _); · (first | omega | (simp; done) | (simp; omega))) | ((with_reducible refine below_setCell ?_ ?_ _); · (first | omega | (simp; done) | (simp; omega))) | (with_reducible refine Below.drew ?_) | (with_reducible refine below_drewN ?_ _) | ((with_reducible refine below_call (by assumption) ?_ ?_); · (first | omega | (simp; done) | (simp; omega))))))) (isR_block stC_len _ _ _ _ _ _ (by simp) (by rfl) (by rfl))).mono ?_; rintro e w5 ⟨rfl, hb5⟩
  have g5 : Below w4.heap.size w4 w5 := by (repeat (first | (with_reducible exact Below.refl _ _) | ((with_reducible refine below_alloc ?_ ?_ _); · (first | omega | (simp; done) | (simp; omega))) | ((with_reducible refine below_setCell ?_ ?_ _); · (first | omega | (simp; done) | (simp; omega))) | (with_reducible refine Below.drew ?_) | (with_reducible refine below_drewN ?_ _) | ((with_reducible refine below_call (by assumption) ?_ ?_); · (first | omega | (simp; done) | (simp; omega)))))
  have B5 : Below w.heap.size w w5 := below_call g5 B4.size B4
  have z5 := B5.size
  have XD : Hid (Row3 w5 w4.heap.size (.string ⟨#[]⟩) (.int .i64 4) (.int .i64 2)) := Lib.hid (Row3.call (by simp [Row3, go_sem]) hb5 (by simp; omega))
  have XA5 := Lib.hid (XA4.out.call g5 (by have := XA4.out.lt; omega))
  have XB5 := Lib.hid (XB4.out.call g5 (by have := XB4.out.lt; omega))
  have XC5 := Lib.hid (XC.out.call g5 y3)
  have OM5 := Lib.hid (OM4.out.call g5)
  clear XA4 XB4 XC OM4
  go_wp2_with fail
  refine (k_d6 _ _ (hT.call (by (repeat (first | (with_reducible exact Below.refl _ _) | ((with_reducible refine below_alloc ?_ ?_ _); · (first | omega | (simp; done) | (simp; omega))) | ((with_reducible refine below_setCell ?_ ?_ _); · (first | omega | (simp; done) | (simp; omega))) | (with_reducible refine Below.drew ?_) | (with_reducible refine below_drewN ?_ _) | ((with_reducible refine below_call (by assumption) ?_ ?_); · (first | omega | (simp; done) | (simp; omega))))))) (isR_block stC_len _ _ _ _ _ _ (by simp) (by rfl) (by rfl))).mono ?_; rintro e w6 ⟨rfl, hb6⟩
  have g6 : Below w5.heap.size w5 w6 := by (repeat (first | (with_reducible exact Below.refl _ _) | ((with_reducible refine below_alloc ?_ ?_ _); · (first | omega | (simp; done) | (simp; omega))) | ((with_reducible refine below_setCell ?_ ?_ _); · (first | omega | (simp; done) | (simp; omega))) | (with_reducible refine Below.drew ?_) | (with_reducible refine below_drewN ?_ _) | ((with_reducible refine below_call (by assumption) ?_ ?_); · (first | omega | (simp; done) | (simp; omega)))))
  have B6 : Below w.heap.size w w6 := below_call g6 B5.size B5
  have z6 := B6.size
  have XA6 := Lib.hid (XA5.out.call g6 XA5.out.lt)
  have XB6 := Lib.hid (XB5.out.call g6 XB5.out.lt)
  have XC6 := Lib.hid (XC5.out.call g6 XC5.out.lt)
  have XD6 := Lib.hid (XD.out.call g6 XD.out.lt)
  obtain ⟨p, cap, he, -, hm⟩ := (OM5.out.call g6).reads itC_len
  cases he
  obtain ⟨b2, o2, rfl, q0⟩ := hm 0 (by decide)
  obtain ⟨b3, o3, he, q1⟩ := hm 1 (by decide)
  cases he
  have M0 := Lib.hid (q0 0 _ rfl)
  have M8 := Lib.hid (q0 8 _ rfl)
  have M17 := Lib.hid (q1 8 _ rfl)
  simp only [Nat.zero_mul, Nat.add_zero, Nat.one_mul, Nat.add_assoc, Nat.reduceAdd] at M0 M8 M17
  clear q0 q1 hm OM5 XA5 XB5 XC5 XD y1 y2 y3 hb1 hb2 hb3 hb4 hb5 hb6 g3 g4 g5 g6 z1 z2 z3 z4 z5 B1 B2 B3 B4 B5
  obtain ⟨⟨a0, a1, a2⟩, fa0, fa1, fa2⟩ := id XA6.out
  go_wp2_with fail
  (try simp only [List.append_eq, List.cons_append, List.nil_append])
  go_wp2_with fail
  refine (k_d7 _).mono ?_; rintro e w7 ⟨rfl, hb7⟩
  have B7 : Below w.heap.size w w7 := below_call hb7 B6.size B6
  have XB7 := Lib.hid (XB6.out.call hb7 XB6.out.lt)
  have XC7 := Lib.hid (XC6.out.call hb7 XC6.out.lt)
  have XD7 := Lib.hid (XD6.out.call hb7 XD6.out.lt)
  have z7 := hb7.size
  have m0 := (hb7.cell (p := ⟨b2, o2, none⟩) (World.block_lt_of_cell? _ _ M0.out)).trans M0.out
  have m8 := (hb7.cell (p := ⟨b2, o2 + 8, none⟩) (World.block_lt_of_cell? _ _ M8.out)).trans M8.out
  have m17 := (hb7.cell (p := ⟨b2, o2 + 17, none⟩) (World.block_lt_of_cell? _ _ M17.out)).trans M17.out
  clear a0 a1 a2 fa0 fa1 fa2 XA6 XB6 XC6 XD6 M0 M8 M17
  obtain ⟨⟨e0, e1, e2⟩, fe0, fe1, fe2⟩ := id XB7.out
  go_wp2_with fail
  refine (k_d8 _).mono ?_; rintro e w8 ⟨rfl, hb8⟩
  have B8 : Below w.heap.size w w8 := below_call hb8 B7.size B7
  have XB8 := Lib.hid (XB7.out.call hb8 XB7.out.lt)
  have XC8 := Lib.hid (XC7.out.call hb8 XC7.out.lt)
  have XD8 := Lib.hid (XD7.out.call hb8 XD7.out.lt)
  have z8 := hb8.size
  clear e0 e1 e2 fe0 fe1 fe2 m0 m8 m17 XB7 XC7 XD7
  obtain ⟨⟨e0, e1, e2⟩, fe0, fe1, fe2⟩ := id XB8.out
  obtain ⟨⟨c0, c1', c2'⟩, fc0, fc1, fc2⟩ := id XC8.out
  obtain ⟨⟨d0, d1, d2⟩, fd0, fd1, fd2⟩ := id XD8.out
  go_wp2_with fail
  refine (k_d9 _).mono ?_; rintro e w9 ⟨rfl, hb9⟩
  have B9 : Below w.heap.size w w9 := below_call hb9 B8.size B8
  clear e0 e1 e2 fe0 fe1 fe2 c0 c1' c2' fc0 fc1 fc2 d0 d1 d2 fd0 fd1 fd2 XB8 XC8 XD8
  go_wp2_with fail
  refine (k_d10 _).mono ?_; rintro e w10 ⟨rfl, hb10⟩
  have B10 : Below w.heap.size w w10 := below_call hb10 B9.size B9
  go_wp2
  go_ret
  exact ⟨rfl, B10⟩
end Go.Proofs.YtackinamkibmlaaDoor
