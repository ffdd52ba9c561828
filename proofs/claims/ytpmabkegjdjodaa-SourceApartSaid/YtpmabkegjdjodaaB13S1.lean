/- Layer 13, the program's: its level; tokens that are taken; how long to wait; how many at most; whether two are one. -/
import Derived.Test.YtpmabkegjdjodaaB13S0
import Derived.Test.YtpmabkegjdjodaaB13D
import Derived.Deep.DeepCutAuto
namespace Go.Proofs.Ytpmabkegjdjodaa
open Go.RowKit
set_option linter.unusedVariables false
set_option linter.unusedSimpArgs false

set_option maxRecDepth 100000 in
set_option maxHeartbeats 2000000 in
theorem blevel_any (B R T A now : Int) (w : World) : Calls Try.prog 27 #[twV B R, twV T A, .int .i64 now] w fun e w' => e = .returned (.int .i64 (lvlN B R T A now)) ∧ Below w.heap.size w w' := by
  have c0 := Lib.hid (fun W => bfine_any B R T A W)
  have X0 : Hid (∀ t t', Bx2 ((w.alloc (.cells #[.int .i64 B, .int .i64 R] t)).alloc (.cells #[.int .i64 T, .int .i64 A] t')) w.heap.size B R ∧ Bx2 ((w.alloc (.cells #[.int .i64 B, .int .i64 R] t)).alloc (.cells #[.int .i64 T, .int .i64 A] t')) (w.heap.size + 1) T A) := Lib.hid (fun t t' => by simp [Bx2, go_sem])
  simp only [twV] at *
  cases hf : finB B R T A with
  | false =>
    have HL : Hid (lvlN B R T A now = 0) := Lib.hid (if_neg (by rw [hf]; decide))
    rw [hf] at c0
    go_enter Try.func27, Try.ntmps27
    go_wp2_with fail
    refine (c0.out _).mono ?_; rintro e w1 ⟨rfl, hb1⟩
    go_wp2
    go_ret
    exact ⟨ret_int HL.out.symm, by (repeat (first | (with_reducible exact Below.refl _ _) | ((with_reducible refine below_alloc ?_ ?_ _); · (first | omega | (simp; done) | (simp; omega))) | ((with_reducible refine below_setCell ?_ ?_ _); · (first | omega | (simp; done) | (simp; omega))) | (with_reducible refine Below.drew ?_) | (with_reducible refine below_drewN ?_ _) | ((with_reducible refine below_call (by assumption) ?_ ?_); · (first | omega | (simp; done) | (simp; omega)))))⟩
  | true =>
    have c1 := Lib.hid (fun W => blater_any B R T A now hf W)
    simp only [twV] at c1
    generalize lvlN B R T A now = L at c1 ⊢
    generalize hldN now A 1099511627776 = H at c1
    rw [hf] at c0
    clear hf
    go_enter Try.func27, Try.ntmps27
    go_wp2_with fail
    refine (c0.out _).mono ?_; rintro e w1 ⟨rfl, hb1⟩
    have B1 : Below w.heap.size w w1 := by (repeat (first | (with_reducible exact Below.refl _ _) | ((with_reducible refine below_alloc ?_ ?_ _); · (first | omega | (simp; done) | (simp; omega))) | ((with_reducible refine below_setCell ?_ ?_ _); · (first | omega | (simp; done) | (simp; omega))) | (with_reducible refine Below.drew ?_) | (with_reducible refine below_drewN ?_ _) | ((with_reducible refine below_call (by assumption) ?_ ?_); · (first | omega | (simp; done) | (simp; omega)))))
    obtain ⟨⟨x0, x1⟩, ⟨y0, y1⟩⟩ := (X0.out _ _).imp (fun h => h.call hb1) (fun h => h.call hb1)
    go_wp2_with fail
    refine (c1.out _).mono ?_; rintro e w2 ⟨rfl, hb2⟩
    have B2 := below_call hb2 B1.size B1
    go_wp2
    go_ret
    exact ⟨rfl, B2⟩
set_option maxRecDepth 100000 in
set_option maxHeartbeats 4000000 in
theorem btake_any (B R T A now n : Int) (w : World) :
    Calls Try.prog 25 #[twV B R, twV T A, .int .i64 now, .int .i64 n] w fun e w' => e = .returned (.tuple #[twV (tkT B R T A now n) (tkA B R T A now n), .bool (tkB B R T A now n)]) ∧ Below w.heap.size w w' := by
  have c0 := Lib.hid (fun W => bfine_any B R T A W)
  have X0 : Hid (∀ t t' t'', Bx2 (((w.alloc (.cells #[.int .i64 B, .int .i64 R] t)).alloc (.cells #[.int .i64 T, .int .i64 A] t')).alloc (.cells #[.int .i64 0, .int .i64 0] t'')) w.heap.size B R ∧ Bx2 (((w.alloc (.cells #[.int .i64 B, .int .i64 R] t)).alloc (.cells #[.int .i64 T, .int .i64 A] t')).alloc (.cells #[.int .i64 0, .int .i64 0] t'')) (w.heap.size + 1) T A ∧ Rw2 (((w.alloc (.cells #[.int .i64 B, .int .i64 R] t)).alloc (.cells #[.int .i64 T, .int .i64 A] t')).alloc (.cells #[.int .i64 0, .int .i64 0] t'')) (w.heap.size + 2) 0 0) := Lib.hid (fun t t' t'' => by simp [Rw2, Bx2, go_sem])
  simp only [twV] at *
  cases hf : finB B R T A with
  | false =>
    have ht : tkB B R T A now n = false := by unfold tkB; rw [hf]; rfl
    obtain ⟨h1, h2⟩ := tk_no ht
    rw [h1, h2, ht]
    rw [hf] at c0
    clear h1 h2 ht hf
    go_enter Try.func25, Try.ntmps25
    go_wp2_with fail
    refine (c0.out _).mono ?_; rintro e w1 ⟨rfl, hb1⟩
    obtain ⟨⟨x0, x1⟩, ⟨y0, y1⟩, ⟨⟨r0, r1⟩, f0, f1⟩⟩ := (X0.out _ _ _).imp (fun h => h.call hb1) (fun h => h.imp (fun h => h.call hb1) (fun h => h.call hb1))
    go_wp2
    refine bodyPost_ret (v := .tuple #[.agg #[.int .i64 T, .int .i64 A], .bool false]) (by simp [results, Try.results25, go_sem, r0, r1]) rfl ⟨rfl, ?_⟩
    (repeat (first | (with_reducible exact Below.refl _ _) | ((with_reducible refine below_alloc ?_ ?_ _); · (first | omega | (simp; done) | (simp; omega))) | ((with_reducible refine below_setCell ?_ ?_ _); · (first | omega | (simp; done) | (simp; omega))) | (with_reducible refine Below.drew ?_) | (with_reducible refine below_drewN ?_ _) | ((with_reducible refine below_call (by assumption) ?_ ?_); · (first | omega | (simp; done) | (simp; omega)))))
  | true =>
  by_cases h0 : 0 ≤ n
  case neg =>
    have ht : tkB B R T A now n = false := by unfold tkB; rw [hf, decide_eq_false (by omega)]; rfl
    obtain ⟨h1, h2⟩ := tk_no ht
    rw [h1, h2, ht]
    rw [hf] at c0
    have h0' : n < 0 := by omega
    clear h1 h2 ht hf h0
    go_enter Try.func25, Try.ntmps25
    go_wp2_with fail
    refine (c0.out _).mono ?_; rintro e w1 ⟨rfl, hb1⟩
    obtain ⟨⟨x0, x1⟩, ⟨y0, y1⟩, ⟨⟨r0, r1⟩, f0, f1⟩⟩ := (X0.out _ _ _).imp (fun h => h.call hb1) (fun h => h.imp (fun h => h.call hb1) (fun h => h.call hb1))
    go_wp2
    refine bodyPost_ret (v := .tuple #[.agg #[.int .i64 T, .int .i64 A], .bool false]) (by simp [results, Try.results25, go_sem, r0, r1]) rfl ⟨rfl, ?_⟩
    (repeat (first | (with_reducible exact Below.refl _ _) | ((with_reducible refine below_alloc ?_ ?_ _); · (first | omega | (simp; done) | (simp; omega))) | ((with_reducible refine below_setCell ?_ ?_ _); · (first | omega | (simp; done) | (simp; omega))) | (with_reducible refine Below.drew ?_) | (with_reducible refine below_drewN ?_ _) | ((with_reducible refine below_call (by assumption) ?_ ?_); · (first | omega | (simp; done) | (simp; omega)))))
  have h0' : ¬ n < 0 := by omega
  have c1 := Lib.hid (fun W => blater_any B R T A now hf W)
  simp only [twV] at c1
  by_cases hl : n ≤ lvlN B R T A now
  case neg =>
    have ht : tkB B R T A now n = false := by unfold tkB; rw [hf, decide_eq_false (by omega)]; rfl
    obtain ⟨h1, h2⟩ := tk_no ht
    rw [h1, h2, ht]
    rw [hf] at c0
    have hl' : lvlN B R T A now < n := by omega
    generalize lvlN B R T A now = L at c1 hl'
    generalize hldN now A 1099511627776 = H at c1
    clear h1 h2 ht hf h0 hl
    go_enter Try.func25, Try.ntmps25
    go_wp2_with fail
    refine (c0.out _).mono ?_; rintro e w1 ⟨rfl, hb1⟩
    have B1 : Below w.heap.size w w1 := by (repeat (first | (with_reducible exact Below.refl _ _) | ((with_reducible refine below_alloc ?_ ?_ _); · (first | omega | (simp; done) | (simp; omega))) | ((with_reducible refine below_setCell ?_ ?_ _); · (first | omega | (simp; done) | (simp; omega))) | (with_reducible refine Below.drew ?_) | (with_reducible refine below_drewN ?_ _) | ((with_reducible refine below_call (by assumption) ?_ ?_); · (first | omega | (simp; done) | (simp; omega)))))
    have X1 := Lib.hid ((X0.out _ _ _).imp (fun h => h.call hb1) (fun h => h.imp (fun h => h.call hb1) (fun h => h.call hb1)))
    obtain ⟨⟨x0, x1⟩, ⟨y0, y1⟩, _⟩ := id X1.out
    go_wp2_with fail
    refine (c1.out _).mono ?_; rintro e w2 ⟨rfl, hb2⟩
    have B2 := below_call hb2 B1.size B1
    have z2 := B2.size
    clear x0 x1 y0 y1
    have X2 := Lib.hid (X1.out.imp (fun h => h.call hb2) (fun h => h.imp (fun h => h.call hb2) (fun h => h.call hb2)))
    go_upto_region 4 with fail
    refine gen_world (F := fun W => (Bx2 W w.heap.size B R ∧ Bx2 W (w.heap.size + 1) T A ∧ Rw2 W (w.heap.size + 2) 0 0) ∧ Rw2 W w2.heap.size L H ∧ Below w.heap.size w W) ⟨⟨X2.out.1.call (by (repeat (first | (with_reducible exact Below.refl _ _) | ((with_reducible refine below_alloc ?_ ?_ _); · (first | omega | (simp; done) | (simp; omega))) | ((with_reducible refine below_setCell ?_ ?_ _); · (first | omega | (simp; done) | (simp; omega))) | (with_reducible refine Below.drew ?_) | (with_reducible refine below_drewN ?_ _) | ((with_reducible refine below_call (by assumption) ?_ ?_); · (first | omega | (simp; done) | (simp; omega)))))), X2.out.2.1.call (by (repeat (first | (with_reducible exact Below.refl _ _) | ((with_reducible refine below_alloc ?_ ?_ _); · (first | omega | (simp; done) | (simp; omega))) | ((with_reducible refine below_setCell ?_ ?_ _); · (first | omega | (simp; done) | (simp; omega))) | (with_reducible refine Below.drew ?_) | (with_reducible refine below_drewN ?_ _) | ((with_reducible refine below_call (by assumption) ?_ ?_); · (first | omega | (simp; done) | (simp; omega)))))), X2.out.2.2.call (by (repeat (first | (with_reducible exact Below.refl _ _) | ((with_reducible refine below_alloc ?_ ?_ _); · (first | omega | (simp; done) | (simp; omega))) | ((with_reducible refine below_setCell ?_ ?_ _); · (first | omega | (simp; done) | (simp; omega))) | (with_reducible refine Below.drew ?_) | (with_reducible refine below_drewN ?_ _) | ((with_reducible refine below_call (by assumption) ?_ ?_); · (first | omega | (simp; done) | (simp; omega))))))⟩, by simp [Rw2, Bx2, go_sem], by (repeat (first | (with_reducible exact Below.refl _ _) | ((with_reducible refine below_alloc ?_ ?_ _); · (first | omega | (simp; done) | (simp; omega))) | ((with_reducible refine below_setCell ?_ ?_ _); · (first | omega | (simp; done) | (simp; omega))) | (with_reducible refine Below.drew ?_) | (with_reducible refine below_drewN ?_ _) | ((with_reducible refine below_call (by assumption) ?_ ?_); · (first | omega | (simp; done) | (simp; omega)))))⟩ (fun w3 hF => ?_)
    obtain ⟨⟨⟨x0, x1⟩, ⟨y0, y1⟩, ⟨⟨r0, r1⟩, f0, f1⟩⟩, ⟨⟨g0, g1⟩, k0, k1⟩, B3⟩ := hF
    go_wp2
    refine bodyPost_ret (v := .tuple #[.agg #[.int .i64 T, .int .i64 A], .bool false]) (by simp [results, Try.results25, go_sem, r0, r1]) rfl ⟨rfl, ?_⟩
    (repeat (first | (with_reducible exact Below.refl _ _) | ((with_reducible refine below_alloc ?_ ?_ _); · (first | omega | (simp; done) | (simp; omega))) | ((with_reducible refine below_setCell ?_ ?_ _); · (first | omega | (simp; done) | (simp; omega))) | (with_reducible refine Below.drew ?_) | (with_reducible refine below_drewN ?_ _) | ((with_reducible refine below_call (by assumption) ?_ ?_); · (first | omega | (simp; done) | (simp; omega)))))
  have ht : tkB B R T A now n = true := by unfold tkB; rw [hf, decide_eq_true ⟨h0, hl⟩]; rfl
  have hT' : tkT B R T A now n = lvlN B R T A now - n := if_pos ht
  have hA' : tkA B R T A now n = hldN now A 1099511627776 := if_pos ht
  have hlb := lvl_bd hf now
  have hB1000 := (fin_iff.1 hf).1.1.2
  have hw : IntKind.i64.wrap (lvlN B R T A now - n) = lvlN B R T A now - n := IntWalk.i64_in _ (by omega)
  have hl' : ¬ lvlN B R T A now < n := by omega
  rw [hT', hA', ht]
  rw [hf] at c0
  generalize lvlN B R T A now = L at c1 hl' hw ⊢
  generalize hldN now A 1099511627776 = H at c1 ⊢
  clear hT' hA' ht hf h0 hl hlb hB1000
  go_enter Try.func25, Try.ntmps25
  go_wp2_with fail
  refine (c0.out _).mono ?_; rintro e w1 ⟨rfl, hb1⟩
  have B1 : Below w.heap.size w w1 := by (repeat (first | (with_reducible exact Below.refl _ _) | ((with_reducible refine below_alloc ?_ ?_ _); · (first | omega | (simp; done) | (simp; omega))) | ((with_reducible refine below_setCell ?_ ?_ _); · (first | omega | (simp; done) | (simp; omega))) | (with_reducible refine Below.drew ?_) | (with_reducible refine below_drewN ?_ _) | ((with_reducible refine below_call (by assumption) ?_ ?_); · (first | omega | (simp; done) | (simp; omega)))))
  have X1 := Lib.hid ((X0.out _ _ _).imp (fun h => h.call hb1) (fun h => h.imp (fun h => h.call hb1) (fun h => h.call hb1)))
  obtain ⟨⟨x0, x1⟩, ⟨y0, y1⟩, _⟩ := id X1.out
  go_wp2_with fail
  refine (c1.out _).mono ?_; rintro e w2 ⟨rfl, hb2⟩
  have B2 := below_call hb2 B1.size B1
  have z2 := B2.size
  clear x0 x1 y0 y1
  have X2 := Lib.hid (X1.out.imp (fun h => h.call hb2) (fun h => h.imp (fun h => h.call hb2) (fun h => h.call hb2)))
  go_upto_region 4 with fail
  refine gen_world (F := fun W => (Bx2 W w.heap.size B R ∧ Bx2 W (w.heap.size + 1) T A ∧ Rw2 W (w.heap.size + 2) 0 0) ∧ Rw2 W w2.heap.size L H ∧ Below w.heap.size w W) ⟨⟨X2.out.1.call (by (repeat (first | (with_reducible exact Below.refl _ _) | ((with_reducible refine below_alloc ?_ ?_ _); · (first | omega | (simp; done) | (simp; omega))) | ((with_reducible refine below_setCell ?_ ?_ _); · (first | omega | (simp; done) | (simp; omega))) | (with_reducible refine Below.drew ?_) | (with_reducible refine below_drewN ?_ _) | ((with_reducible refine below_call (by assumption) ?_ ?_); · (first | omega | (simp; done) | (simp; omega)))))), X2.out.2.1.call (by (repeat (first | (with_reducible exact Below.refl _ _) | ((with_reducible refine below_alloc ?_ ?_ _); · (first | omega | (simp; done) | (simp; omega))) | ((with_reducible refine below_setCell ?_ ?_ _); · (first | omega | (simp; done) | (simp; omega))) | (with_reducible refine Below.drew ?_) | (with_reducible refine below_drewN ?_ _) | ((with_reducible refine below_call (by assumption) ?_ ?_); · (first | omega | (simp; done) | (simp; omega)))))), X2.out.2.2.call (by (repeat (first | (with_reducible exact Below.refl _ _) | ((with_reducible refine below_alloc ?_ ?_ _); · (first | omega | (simp; done) | (simp; omega))) | ((with_reducible refine below_setCell ?_ ?_ _); · (first | omega | (simp; done) | (simp; omega))) | (with_reducible refine Below.drew ?_) | (with_reducible refine below_drewN ?_ _) | ((with_reducible refine below_call (by assumption) ?_ ?_); · (first | omega | (simp; done) | (simp; omega))))))⟩, by simp [Rw2, Bx2, go_sem], by (repeat (first | (with_reducible exact Below.refl _ _) | ((with_reducible refine below_alloc ?_ ?_ _); · (first | omega | (simp; done) | (simp; omega))) | ((with_reducible refine below_setCell ?_ ?_ _); · (first | omega | (simp; done) | (simp; omega))) | (with_reducible refine Below.drew ?_) | (with_reducible refine below_drewN ?_ _) | ((with_reducible refine below_call (by assumption) ?_ ?_); · (first | omega | (simp; done) | (simp; omega)))))⟩ (fun w3 hF => ?_)
  obtain ⟨⟨⟨x0, x1⟩, ⟨y0, y1⟩, ⟨⟨r0, r1⟩, f0, f1⟩⟩, ⟨⟨g0, g1⟩, k0, k1⟩, B3⟩ := hF
  have hz2 : w.heap.size + 3 ≤ w2.heap.size := by have := hb1.size; have := hb2.size; simp at *; omega
  have hne : w2.heap.size ≠ w.heap.size + 2 := by omega
  go_upto_region 7 with fail
  refine gen_world (F := fun W => Rw2 W (w.heap.size + 2) 0 0 ∧ Rw2 W w2.heap.size (L - n) H ∧ Below w.heap.size w W) ⟨?_, ?_, by (repeat (first | (with_reducible exact Below.refl _ _) | ((with_reducible refine below_alloc ?_ ?_ _); · (first | omega | (simp; done) | (simp; omega))) | ((with_reducible refine below_setCell ?_ ?_ _); · (first | omega | (simp; done) | (simp; omega))) | (with_reducible refine Below.drew ?_) | (with_reducible refine below_drewN ?_ _) | ((with_reducible refine below_call (by assumption) ?_ ?_); · (first | omega | (simp; done) | (simp; omega)))))⟩ (fun w4 hF => ?_)
  · simp [Rw2, Bx2, go_sem, r0, r1, f0, f1, hne]
  · simp [Rw2, Bx2, go_sem, g0, g1, k0, k1, hne]
  clear r0 r1 f0 f1 g0 g1 k0 k1 x0 x1 y0 y1 B3
  obtain ⟨⟨⟨r0, r1⟩, f0, f1⟩, ⟨⟨g0, g1⟩, k0, k1⟩, B3⟩ := hF
  go_wp2
  refine bodyPost_ret (v := .tuple #[.agg #[.int .i64 (L - n), .int .i64 H], .bool true]) (by simp [results, Try.results25, go_sem, r0, r1]) rfl ⟨rfl, ?_⟩
  (repeat (first | (with_reducible exact Below.refl _ _) | ((with_reducible refine below_alloc ?_ ?_ _); · (first | omega | (simp; done) | (simp; omega))) | ((with_reducible refine below_setCell ?_ ?_ _); · (first | omega | (simp; done) | (simp; omega))) | (with_reducible refine Below.drew ?_) | (with_reducible refine below_drewN ?_ _) | ((with_reducible refine below_call (by assumption) ?_ ?_); · (first | omega | (simp; done) | (simp; omega)))))
set_option maxRecDepth 100000 in
set_option maxHeartbeats 4000000 in
theorem bwait_any (B R T A now n : Int) (hn64 : n ≤ 9223372036854775807) (w : World) : Calls Try.prog 37 #[twV B R, twV T A, .int .i64 now, .int .i64 n] w fun e w' => e = .returned (.int .i64 (waitN B R T A now n)) ∧ Below w.heap.size w w' := by
  have c0 := Lib.hid (fun W => bfine_any B R T A W)
  have c1 := Lib.hid (fun W => blevel_any B R T A now W)
  have X0 : Hid (∀ t t', Bx2 ((w.alloc (.cells #[.int .i64 B, .int .i64 R] t)).alloc (.cells #[.int .i64 T, .int .i64 A] t')) w.heap.size B R ∧ Bx2 ((w.alloc (.cells #[.int .i64 B, .int .i64 R] t)).alloc (.cells #[.int .i64 T, .int .i64 A] t')) (w.heap.size + 1) T A) := Lib.hid (fun t t' => by simp [Bx2, go_sem])
  simp only [twV] at *
  cases hf : finB B R T A with
  | false =>
    have HL : Hid (waitN B R T A now n = -1) := Lib.hid (if_neg (by rw [hf]; simp))
    rw [hf] at c0
    go_enter Try.func37, Try.ntmps37
    go_wp2_with fail
    refine (c0.out _).mono ?_; rintro e w1 ⟨rfl, hb1⟩
    go_wp2
    go_ret
    exact ⟨ret_int HL.out.symm, by (repeat (first | (with_reducible exact Below.refl _ _) | ((with_reducible refine below_alloc ?_ ?_ _); · (first | omega | (simp; done) | (simp; omega))) | ((with_reducible refine below_setCell ?_ ?_ _); · (first | omega | (simp; done) | (simp; omega))) | (with_reducible refine Below.drew ?_) | (with_reducible refine below_drewN ?_ _) | ((with_reducible refine below_call (by assumption) ?_ ?_); · (first | omega | (simp; done) | (simp; omega)))))⟩
  | true =>
  by_cases h0 : 0 ≤ n
  case neg =>
    have HL : Hid (waitN B R T A now n = -1) := Lib.hid (if_neg (by omega))
    have h0' : n < 0 := by omega
    rw [hf] at c0
    clear h0
    go_enter Try.func37, Try.ntmps37
    go_wp2_with fail
    refine (c0.out _).mono ?_; rintro e w1 ⟨rfl, hb1⟩
    go_wp2
    go_ret
    exact ⟨ret_int HL.out.symm, by (repeat (first | (with_reducible exact Below.refl _ _) | ((with_reducible refine below_alloc ?_ ?_ _); · (first | omega | (simp; done) | (simp; omega))) | ((with_reducible refine below_setCell ?_ ?_ _); · (first | omega | (simp; done) | (simp; omega))) | (with_reducible refine Below.drew ?_) | (with_reducible refine below_drewN ?_ _) | ((with_reducible refine below_call (by assumption) ?_ ?_); · (first | omega | (simp; done) | (simp; omega)))))⟩
  have h0' : ¬ n < 0 := by omega
  have hlb := lvl_bd hf now
  obtain ⟨⟨hc1, hc2⟩, _⟩ := fin_iff.1 hf
  have H1 : Hid (n ≤ lvlN B R T A now → waitN B R T A now n = 0) := Lib.hid (fun h => by unfold waitN; rw [if_pos ⟨hf, h0, by omega⟩, if_pos h])
  have H2 : Hid (lvlN B R T A now < n → B < n ∨ R = 0 → waitN B R T A now n = -1) := Lib.hid (fun h h2 => by
    unfold waitN
    by_cases hB : n ≤ B
    · rw [if_pos ⟨hf, h0, hB⟩, if_neg (by omega), if_pos (by omega)]
    · rw [if_neg (by omega)])
  have H3 : Hid (lvlN B R T A now < n → n ≤ B → R ≠ 0 → waitN B R T A now n = (n - lvlN B R T A now + R - 1) / R) := Lib.hid (fun h h1 h2 => by unfold waitN; rw [if_pos ⟨hf, h0, h1⟩, if_neg (by omega), if_neg h2])
  rw [hf] at c0
  generalize lvlN B R T A now = L at c1 hlb H1 H2 H3
  clear hf
  have hw : IntKind.i64.wrap (n - L) = n - L := IntWalk.i64_in _ (by omega)
  go_enter Try.func37, Try.ntmps37
  go_wp2_with fail
  refine (c0.out _).mono ?_; rintro e w1 ⟨rfl, hb1⟩
  have B1 : Below w.heap.size w w1 := by (repeat (first | (with_reducible exact Below.refl _ _) | ((with_reducible refine below_alloc ?_ ?_ _); · (first | omega | (simp; done) | (simp; omega))) | ((with_reducible refine below_setCell ?_ ?_ _); · (first | omega | (simp; done) | (simp; omega))) | (with_reducible refine Below.drew ?_) | (with_reducible refine below_drewN ?_ _) | ((with_reducible refine below_call (by assumption) ?_ ?_); · (first | omega | (simp; done) | (simp; omega)))))
  have X1 := Lib.hid ((X0.out _ _).imp (fun h => h.call hb1) (fun h => h.call hb1))
  obtain ⟨⟨x0, x1⟩, ⟨y0, y1⟩⟩ := id X1.out
  go_wp2_with fail
  refine (c1.out _).mono ?_; rintro e w2 ⟨rfl, hb2⟩
  have B2 := below_call hb2 B1.size B1
  have X2 := Lib.hid (X1.out.1.call hb2)
  clear x0 x1 y0 y1 X0 X1 c0 c1
  obtain ⟨x0, x1⟩ := id X2.out
  by_cases hl : n ≤ L
  · have HR := Lib.hid (H1.out hl)
    go_wp2
    go_ret
    exact ⟨ret_int HR.out.symm, B2⟩
  · by_cases hB : B < n
    · have HR := Lib.hid (H2.out (by omega) (.inl hB))
      go_wp2
      go_ret
      exact ⟨ret_int HR.out.symm, B2⟩
    · by_cases hR : R = 0
      · have HR := Lib.hid (H2.out (by omega) (.inr hR))
        have hr0 : (R == 0) = true := by simp [hR]
        clear hR
        go_wp2
        go_ret
        exact ⟨ret_int HR.out.symm, B2⟩
      · have HR := Lib.hid (H3.out (by omega) (by omega) hR)
        have hr0 : (R == 0) = false := by simp [hR]
        have s1 : IntKind.i64.wrap (n - L + R) = n - L + R := IntWalk.i64_in _ (by omega)
        have s2 : IntKind.i64.wrap (n - L + R - 1) = n - L + R - 1 := IntWalk.i64_in _ (by omega)
        have hR0 : 0 < R := by omega
        have s3 : Int.tdiv (n - L + R - 1) R = (n - L + R - 1) / R := Int.tdiv_eq_ediv_of_nonneg (by omega)
        have s4 : IntKind.i64.wrap ((n - L + R - 1) / R) = (n - L + R - 1) / R := by
          have a1 := Int.ediv_nonneg (a := n - L + R - 1) (b := R) (by omega) (by omega)
          have a2 := Int.ediv_le_self R (show 0 ≤ n - L + R - 1 by omega)
          exact IntWalk.i64_in _ (by omega)
        go_wp2
        go_ret
        exact ⟨ret_int HR.out.symm, B2⟩
set_option maxRecDepth 100000 in
set_option maxHeartbeats 2000000 in
theorem bmost_any (B R n : Int) (w : World) : Calls Try.prog 26 #[twV B R, .int .i64 n] w fun e w' => e = .returned (.int .i64 (mostN B R n)) ∧ Below w.heap.size w w' := by
  have c0 := Lib.hid (fun W => bcheck_any B R W)
  have c1 := Lib.hid (fun W => bhold_any n 0 1073741824 (by decide) W)
  have X0 : Hid (∀ t, Bx2 (w.alloc (.cells #[.int .i64 B, .int .i64 R] t)) w.heap.size B R) := Lib.hid (fun t => by simp [Bx2, go_sem])
  unfold cnfE at c0
  simp only [twV] at *
  cases hf : cnfB B R with
  | false =>
    have HL : Hid (mostN B R n = 0) := Lib.hid (if_neg (by rw [hf]; decide))
    rw [hf] at c0
    simp only [Bool.false_eq_true, if_false] at c0
    go_enter Try.func26, Try.ntmps26
    go_wp2_with fail
    refine (c0.out _).mono ?_; rintro e w1 ⟨rfl, hb1⟩
    go_wp2
    go_ret
    exact ⟨ret_int HL.out.symm, by (repeat (first | (with_reducible exact Below.refl _ _) | ((with_reducible refine below_alloc ?_ ?_ _); · (first | omega | (simp; done) | (simp; omega))) | ((with_reducible refine below_setCell ?_ ?_ _); · (first | omega | (simp; done) | (simp; omega))) | (with_reducible refine Below.drew ?_) | (with_reducible refine below_drewN ?_ _) | ((with_reducible refine below_call (by assumption) ?_ ?_); · (first | omega | (simp; done) | (simp; omega)))))⟩
  | true =>
    have HL : Hid (mostN B R n = B + R * hldN n 0 1073741824) := Lib.hid (if_pos hf)
    obtain ⟨h1, h2⟩ := cnf_iff.1 hf
    have hh := hld_bd (n := n) (show (0 : Int) ≤ 1073741824 by decide)
    have hp := prod_bd (d := hldN n 0 1073741824) h2.1 h2.2 hh.1 (by omega)
    have s1 : IntKind.i64.wrap (R * hldN n 0 1073741824) = R * hldN n 0 1073741824 := IntWalk.i64_in _ (by omega)
    have s2 : IntKind.i64.wrap (B + R * hldN n 0 1073741824) = B + R * hldN n 0 1073741824 := IntWalk.i64_in _ (by omega)
    rw [hf] at c0
    simp only [if_true] at c0
    generalize hldN n 0 1073741824 = h at c1 HL s1 s2
    clear hf hh hp
    go_enter Try.func26, Try.ntmps26
    go_wp2_with fail
    refine (c0.out _).mono ?_; rintro e w1 ⟨rfl, hb1⟩
    have B1 : Below w.heap.size w w1 := by (repeat (first | (with_reducible exact Below.refl _ _) | ((with_reducible refine below_alloc ?_ ?_ _); · (first | omega | (simp; done) | (simp; omega))) | ((with_reducible refine below_setCell ?_ ?_ _); · (first | omega | (simp; done) | (simp; omega))) | (with_reducible refine Below.drew ?_) | (with_reducible refine below_drewN ?_ _) | ((with_reducible refine below_call (by assumption) ?_ ?_); · (first | omega | (simp; done) | (simp; omega)))))
    obtain ⟨x0, x1⟩ := (X0.out _).call hb1
    go_wp2
    refine wp_region_held_drew (S := fun w' => w'.cell? ⟨w.heap.size, 0, none⟩ = some (.int .i64 B) ∧ w'.cell? ⟨w.heap.size, 1, none⟩ = some (.int .i64 R)) (by kernel_rfl) (by simp [go_sem, x0, x1]) (fun hHeld => ?_)
    (refine wpAnyH_take (i := 0) (v := ?_) rfl (by kernel_rfl) (by kernel_rfl) (by kernel_rfl) (fun _ _ _ h => h) (Or.inl ⟨by rfl, ?_⟩) (by assumption) ?_; rotate_left 1; (focus (intro wz hz; (try dsimp only at hz); (try simp only [List.getElem_toArray, List.getElem_cons_succ, List.getElem_cons_zero]); go_simp; (try (rw [if_neg (by (try simp only [ByteArray.size_append]); omega)])); try (with_reducible rfl); done)))
    try simp only [Act.put, List.getElem_toArray, List.getElem_cons_succ, List.getElem_cons_zero, List.setIfInBounds_toArray, List.set_cons_zero, List.set_cons_succ]
    (refine wpAnyH_take (i := 2) (v := ?_) rfl (by kernel_rfl) (by kernel_rfl) (by kernel_rfl) (fun _ _ _ h => h) (Or.inl ⟨by rfl, ?_⟩) (by assumption) ?_; rotate_left 1; (focus (intro wz hz; (try dsimp only at hz); (try simp only [List.getElem_toArray, List.getElem_cons_succ, List.getElem_cons_zero]); go_simp; (try (rw [if_neg (by (try simp only [ByteArray.size_append]); omega)])); try (with_reducible rfl); done)))
    try simp only [Act.put, List.getElem_toArray, List.getElem_cons_succ, List.getElem_cons_zero, List.setIfInBounds_toArray, List.set_cons_zero, List.set_cons_succ]
    (refine wpAnyH_take (i := 4) (v := ?_) rfl (by kernel_rfl) (by kernel_rfl) (by kernel_rfl) (fun _ _ _ h => h) (Or.inl ⟨by rfl, ?_⟩) (by assumption) ?_; rotate_left 1; (focus (intro wz hz; (try dsimp only at hz); (try simp only [List.getElem_toArray, List.getElem_cons_succ, List.getElem_cons_zero]); go_simp; (try (rw [if_neg (by (try simp only [ByteArray.size_append]); omega)])); try (with_reducible rfl); done)))
    try simp only [Act.put, List.getElem_toArray, List.getElem_cons_succ, List.getElem_cons_zero, List.setIfInBounds_toArray, List.set_cons_zero, List.set_cons_succ]
    (refine wpAnyH_take (i := 1) (v := ?_) rfl (by kernel_rfl) (by kernel_rfl) (by kernel_rfl) (fun _ _ _ h => h) (Or.inl ⟨by rfl, ?_⟩) (by assumption) ?_; rotate_left 1; (focus (intro wz hz; (try dsimp only at hz); (try simp only [List.getElem_toArray, List.getElem_cons_succ, List.getElem_cons_zero]); go_simp; (try (rw [if_neg (by (try simp only [ByteArray.size_append]); omega)])); try (with_reducible rfl); done)))
    try simp only [Act.put, List.getElem_toArray, List.getElem_cons_succ, List.getElem_cons_zero, List.setIfInBounds_toArray, List.set_cons_zero, List.set_cons_succ]
    (refine wpAnyH_take (i := 3) (v := ?_) rfl (by kernel_rfl) (by kernel_rfl) (by kernel_rfl) (fun _ _ _ h => h) (Or.inl ⟨by rfl, ?_⟩) (by assumption) ?_; rotate_left 1; (focus (intro wz hz; (try dsimp only at hz); (try simp only [List.getElem_toArray, List.getElem_cons_succ, List.getElem_cons_zero]); go_simp; (try (rw [if_neg (by (try simp only [ByteArray.size_append]); omega)])); try (with_reducible rfl); done)))
    try simp only [Act.put, List.getElem_toArray, List.getElem_cons_succ, List.getElem_cons_zero, List.setIfInBounds_toArray, List.set_cons_zero, List.set_cons_succ]
    (refine wpAnyH_ready (rs := [5]) (by kernel_rfl) (by simp) ?_; refine AllReadyH.cons rfl (fun K hK => ?_) AllReadyH.nil; (try simp only [List.getElem_toArray, List.getElem_cons_succ, List.getElem_cons_zero]); go_simp; go_at_call 49; refine (c1.out _).mono ?_; rintro e wn5 ⟨rfl, rfl⟩; (try (go_wp2_with fail)); refine hK.out _ _ (by simp [go_sem, x0, x1]) (fun hHeld => ?_); clear hK K)
    try simp only [Act.put, List.getElem_toArray, List.getElem_cons_succ, List.getElem_cons_zero, List.setIfInBounds_toArray, List.set_cons_zero, List.set_cons_succ]
    (refine wpAnyH_take (i := 6) (v := ?_) rfl (by kernel_rfl) (by kernel_rfl) (by kernel_rfl) (fun _ _ _ h => h) (Or.inl ⟨by rfl, ?_⟩) (by assumption) ?_; rotate_left 1; (focus (intro wz hz; (try dsimp only at hz); (try simp only [List.getElem_toArray, List.getElem_cons_succ, List.getElem_cons_zero]); go_simp; (try (rw [if_neg (by (try simp only [ByteArray.size_append]); omega)])); try (with_reducible rfl); done)))
    try simp only [Act.put, List.getElem_toArray, List.getElem_cons_succ, List.getElem_cons_zero, List.setIfInBounds_toArray, List.set_cons_zero, List.set_cons_succ]
    (refine wpAnyH_take (i := 7) (v := ?_) rfl (by kernel_rfl) (by kernel_rfl) (by kernel_rfl) (fun _ _ _ h => h) (Or.inl ⟨by rfl, ?_⟩) (by assumption) ?_; rotate_left 1; (focus (intro wz hz; (try dsimp only at hz); (try simp only [List.getElem_toArray, List.getElem_cons_succ, List.getElem_cons_zero]); go_simp; (try (rw [if_neg (by (try simp only [ByteArray.size_append]); omega)])); try (with_reducible rfl); done)))
    try simp only [Act.put, List.getElem_toArray, List.getElem_cons_succ, List.getElem_cons_zero, List.setIfInBounds_toArray, List.set_cons_zero, List.set_cons_succ]
    (refine wpAnyH_take (i := 8) (v := ?_) rfl (by kernel_rfl) (by kernel_rfl) (by kernel_rfl) (fun _ _ _ h => h) (Or.inl ⟨by rfl, ?_⟩) (by assumption) ?_; rotate_left 1; (focus (intro wz hz; (try dsimp only at hz); (try simp only [List.getElem_toArray, List.getElem_cons_succ, List.getElem_cons_zero]); go_simp; (try (rw [if_neg (by (try simp only [ByteArray.size_append]); omega)])); try (with_reducible rfl); done)))
    try simp only [Act.put, List.getElem_toArray, List.getElem_cons_succ, List.getElem_cons_zero, List.setIfInBounds_toArray, List.set_cons_zero, List.set_cons_succ]
    refine wpAnyH_done (by kernel_rfl) ?_ _
    go_wp2
    go_ret
    exact ⟨ret_int HL.out.symm, B1.drew⟩
end Go.Proofs.Ytpmabkegjdjodaa
