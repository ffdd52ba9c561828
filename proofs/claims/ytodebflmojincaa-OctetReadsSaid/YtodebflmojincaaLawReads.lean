/- OctetReads: anything read of any Read, that may be wrong itself, is told, and leaves it, as the document says: the statement holds for every input. No condition. -/
import Derived.Test.YtodebflmojincaaLawOpen
import Derived.Test.YtodebflmojincaaOctL
import Derived.Test.YtodebflmojincaaOctEq
import Derived.Deep.RegionHeld3
import Derived.Deep.DrawnRows
import Derived.Deep.DeepCutAuto
namespace Go.Proofs.Ytodebflmojincaa
open Go.RowKit Go.ChangeShapes Go.WideShapes Go.ChangeAt Go.ChangeMaps
set_option linter.unusedVariables false
set_option linter.unusedSimpArgs false
attribute [local go_sem ↓] Go.wp_at_zero Go.wp_at_succ

theorem keepR {W w1 : World} (hb : Below W.heap.size W w1) {a : Addr} {v : Value} (h : W.cell? a = some v) : w1.cell? a = some v := (hb.cell (World.block_lt_of_cell? _ _ h)).trans h

def BB (w W : World) : Prop := Below w.heap.size w W
theorem BB.call {w W w1 : World} (h : BB w W) (hb : Below W.heap.size W w1) : BB w w1 := Below.trans h (hb.mono h.size)
def SS (s : ByteArray) (a b n : Int) (k0 k1 k2 k3 k4 k5 k6 k7 : Nat) (W : World) : Prop := Row3 W k0 (.string s) (.int .i64 a) (.int .i64 b) ∧ Row3 W k1 (.string s) (.int .i64 a) (.int .i64 b) ∧ Row3 W k2 (.string s) (.int .i64 (numA s a b n)) (.int .i64 (numB s a b n)) ∧ Row3 W k3 (.string s) (.int .i64 (numA s a b n)) (.int .i64 (numB s a b n)) ∧ Row3 W k4 (.string s) (.int .i64 (textA s a b n)) (.int .i64 (textB s a b n)) ∧ Row3 W k5 (.string s) (.int .i64 (textA s a b n)) (.int .i64 (textB s a b n)) ∧ Row3 W k6 (.string s) (.int .i64 (restA s a b)) (.int .i64 (chk s a b)) ∧ Row3 W k7 (.string s) (.int .i64 (restA s a b)) (.int .i64 (chk s a b))
theorem SS.call {s : ByteArray} {a b n : Int} {k0 k1 k2 k3 k4 k5 k6 k7 : Nat} {W w1 : World} (h : SS s a b n k0 k1 k2 k3 k4 k5 k6 k7 W) (hb : Below W.heap.size W w1) : SS s a b n k0 k1 k2 k3 k4 k5 k6 k7 w1 := by
  obtain ⟨h0, h1, h2, h3, h4, h5, h6, h7⟩ := h
  exact ⟨h0.call hb h0.lt, h1.call hb h1.lt, h2.call hb h2.lt, h3.call hb h3.lt, h4.call hb h4.lt, h5.call hb h5.lt, h6.call hb h6.lt, h7.call hb h7.lt⟩
theorem SS.out {s : ByteArray} {a b n : Int} {k0 k1 k2 k3 k4 k5 k6 k7 : Nat} {W : World} (h : SS s a b n k0 k1 k2 k3 k4 k5 k6 k7 W) : W.cell? ⟨k0, 0, none⟩ = some (.string s) ∧ W.cell? ⟨k0, 1, none⟩ = some (.int .i64 a) ∧ W.cell? ⟨k0, 2, none⟩ = some (.int .i64 b) ∧ W.cell? ⟨k1, 0, none⟩ = some (.string s) ∧ W.cell? ⟨k1, 1, none⟩ = some (.int .i64 a) ∧ W.cell? ⟨k1, 2, none⟩ = some (.int .i64 b) ∧ W.cell? ⟨k2, 0, none⟩ = some (.string s) ∧ W.cell? ⟨k2, 1, none⟩ = some (.int .i64 (numA s a b n)) ∧ W.cell? ⟨k2, 2, none⟩ = some (.int .i64 (numB s a b n)) ∧ W.cell? ⟨k3, 0, none⟩ = some (.string s) ∧ W.cell? ⟨k3, 1, none⟩ = some (.int .i64 (numA s a b n)) ∧ W.cell? ⟨k3, 2, none⟩ = some (.int .i64 (numB s a b n)) ∧ W.cell? ⟨k4, 0, none⟩ = some (.string s) ∧ W.cell? ⟨k4, 1, none⟩ = some (.int .i64 (textA s a b n)) ∧ W.cell? ⟨k4, 2, none⟩ = some (.int .i64 (textB s a b n)) ∧ W.cell? ⟨k5, 0, none⟩ = some (.string s) ∧ W.cell? ⟨k5, 1, none⟩ = some (.int .i64 (textA s a b n)) ∧ W.cell? ⟨k5, 2, none⟩ = some (.int .i64 (textB s a b n)) ∧ W.cell? ⟨k6, 0, none⟩ = some (.string s) ∧ W.cell? ⟨k6, 1, none⟩ = some (.int .i64 (restA s a b)) ∧ W.cell? ⟨k6, 2, none⟩ = some (.int .i64 (chk s a b)) ∧ W.cell? ⟨k7, 0, none⟩ = some (.string s) ∧ W.cell? ⟨k7, 1, none⟩ = some (.int .i64 (restA s a b)) ∧ W.cell? ⟨k7, 2, none⟩ = some (.int .i64 (chk s a b)) := by
  obtain ⟨⟨⟨a0, b0, c0⟩, _⟩, ⟨⟨a1, b1, c1⟩, _⟩, ⟨⟨a2, b2, c2⟩, _⟩, ⟨⟨a3, b3, c3⟩, _⟩, ⟨⟨a4, b4, c4⟩, _⟩, ⟨⟨a5, b5, c5⟩, _⟩, ⟨⟨a6, b6, c6⟩, _⟩, ⟨⟨a7, b7, c7⟩, _⟩⟩ := h
  exact ⟨a0, b0, c0, a1, b1, c1, a2, b2, c2, a3, b3, c3, a4, b4, c4, a5, b5, c5, a6, b6, c6, a7, b7, c7⟩
set_option maxHeartbeats 8000000 in
theorem reads_walk (s : ByteArray) (a b n : Int) (w : World) (hs : s.size ≤ maxLen) :
    Calls Try.prog 3 #[.agg #[.string s, .int .i64 a, .int .i64 b], .int .i64 n] w fun e w' => e = .returned (.bool true) ∧ Below w.heap.size w w' := by
  have hm := hs
  unfold maxLen at hs
  by_cases hbig : (300 : Int) < s.size
  · go_enter Try.func3, Try.ntmps3
    go_wp2_with (go_at_call 9; refine (awake_any _).mono ?_; rintro e w1 ⟨rfl, hb1⟩)
    go_ret
    exact ⟨rfl, by (repeat (first | (with_reducible exact Below.refl _ _) | ((with_reducible refine below_alloc ?_ ?_ _); · (first | omega | (simp; done) | (simp; omega))) | ((with_reducible refine below_setCell ?_ ?_ _); · (first | omega | (simp; done) | (simp; omega))) | (with_reducible refine Below.drew ?_) | ((with_reducible refine below_call (by assumption) ?_ ?_); · (first | omega | (simp; done) | (simp; omega)))))⟩
  · have h1 : (s.size : Int) ≤ 300 := by omega
    have hs48 : s.size ≤ 281474976710656 := by omega
    clear hbig
    go_enter Try.func3, Try.ntmps3
    go_wp2_with fail
    have Q0 : Row3 (w.alloc (.cells #[.string s, .int .i64 a, .int .i64 b] 23)) w.heap.size (.string s) (.int .i64 a) (.int .i64 b) := by simp [Row3, go_sem]
    have B0 : Below w.heap.size w (w.alloc (.cells #[.string s, .int .i64 a, .int .i64 b] 23)) := (Below.refl _ _).alloc (Nat.le_refl _) _
    refine (own_any _ _ _ _).mono ?_
    rintro e w1 ⟨rfl, hb1⟩
    have Q0 := Q0.call hb1 Q0.lt
    have B0 := B0.trans (hb1.mono B0.size)
    have Q0 := Q0.alloc Q0.lt (.cells #[.string s, .int .i64 (a), .int .i64 (b)] 27)
    have Q1 : Row3 (w1.alloc (.cells #[.string s, .int .i64 (a), .int .i64 (b)] 27)) w1.heap.size (.string s) (.int .i64 (a)) (.int .i64 (b)) := by simp [Row3, go_sem]
    have B0 := B0.alloc B0.size (.cells #[.string s, .int .i64 (a), .int .i64 (b)] 27)
    obtain ⟨⟨c10, c11, c12⟩, _⟩ := id Q1
    go_wp2_with fail
    clear c10 c11 c12
    refine (num_any _ _ _ _ _ hm).mono ?_
    rintro e w2 ⟨rfl, hb2⟩
    unfold numV
    have Q0 := Q0.call hb2 Q0.lt
    have Q1 := Q1.call hb2 Q1.lt
    have B0 := B0.trans (hb2.mono B0.size)
    have Q0 := Q0.alloc Q0.lt (.cells #[.string s, .int .i64 (numA s a b n), .int .i64 (numB s a b n)] 27)
    have Q1 := Q1.alloc Q1.lt (.cells #[.string s, .int .i64 (numA s a b n), .int .i64 (numB s a b n)] 27)
    have Q2 : Row3 (w2.alloc (.cells #[.string s, .int .i64 (numA s a b n), .int .i64 (numB s a b n)] 27)) w2.heap.size (.string s) (.int .i64 (numA s a b n)) (.int .i64 (numB s a b n)) := by simp [Row3, go_sem]
    have B0 := B0.alloc B0.size (.cells #[.string s, .int .i64 (numA s a b n), .int .i64 (numB s a b n)] 27)
    obtain ⟨⟨c00, c01, c02⟩, _⟩ := id Q0
    go_wp2_with fail
    clear c00 c01 c02
    refine (rnum_any _ _ _ _ _ hm).mono ?_
    rintro e w3 ⟨rfl, hb3⟩
    unfold numV
    have Q0 := Q0.call hb3 Q0.lt
    have Q1 := Q1.call hb3 Q1.lt
    have Q2 := Q2.call hb3 Q2.lt
    have B0 := B0.trans (hb3.mono B0.size)
    have Q0 := Q0.alloc Q0.lt (.cells #[.string s, .int .i64 (numA s a b n), .int .i64 (numB s a b n)] 23)
    have Q1 := Q1.alloc Q1.lt (.cells #[.string s, .int .i64 (numA s a b n), .int .i64 (numB s a b n)] 23)
    have Q2 := Q2.alloc Q2.lt (.cells #[.string s, .int .i64 (numA s a b n), .int .i64 (numB s a b n)] 23)
    have Q3 : Row3 (w3.alloc (.cells #[.string s, .int .i64 (numA s a b n), .int .i64 (numB s a b n)] 23)) w3.heap.size (.string s) (.int .i64 (numA s a b n)) (.int .i64 (numB s a b n)) := by simp [Row3, go_sem]
    have B0 := B0.alloc B0.size (.cells #[.string s, .int .i64 (numA s a b n), .int .i64 (numB s a b n)] 23)
    obtain ⟨⟨c10, c11, c12⟩, _⟩ := id Q1
    go_wp2_with fail
    clear c10 c11 c12
    refine (text_any _ _ _ _ _ hs48).mono ?_
    rintro e w4 ⟨rfl, hb4⟩
    unfold textV
    have Q0 := Q0.call hb4 Q0.lt
    have Q1 := Q1.call hb4 Q1.lt
    have Q2 := Q2.call hb4 Q2.lt
    have Q3 := Q3.call hb4 Q3.lt
    have B0 := B0.trans (hb4.mono B0.size)
    have Q0 := Q0.alloc Q0.lt (.cells #[.string s, .int .i64 (textA s a b n), .int .i64 (textB s a b n)] 27)
    have Q1 := Q1.alloc Q1.lt (.cells #[.string s, .int .i64 (textA s a b n), .int .i64 (textB s a b n)] 27)
    have Q2 := Q2.alloc Q2.lt (.cells #[.string s, .int .i64 (textA s a b n), .int .i64 (textB s a b n)] 27)
    have Q3 := Q3.alloc Q3.lt (.cells #[.string s, .int .i64 (textA s a b n), .int .i64 (textB s a b n)] 27)
    have Q4 : Row3 (w4.alloc (.cells #[.string s, .int .i64 (textA s a b n), .int .i64 (textB s a b n)] 27)) w4.heap.size (.string s) (.int .i64 (textA s a b n)) (.int .i64 (textB s a b n)) := by simp [Row3, go_sem]
    have B0 := B0.alloc B0.size (.cells #[.string s, .int .i64 (textA s a b n), .int .i64 (textB s a b n)] 27)
    obtain ⟨⟨c00, c01, c02⟩, _⟩ := id Q0
    go_wp2_with fail
    clear c00 c01 c02
    refine (rtext_any _ _ _ _ _ hs48).mono ?_
    rintro e w5 ⟨rfl, hb5⟩
    unfold textV
    have Q0 := Q0.call hb5 Q0.lt
    have Q1 := Q1.call hb5 Q1.lt
    have Q2 := Q2.call hb5 Q2.lt
    have Q3 := Q3.call hb5 Q3.lt
    have Q4 := Q4.call hb5 Q4.lt
    have B0 := B0.trans (hb5.mono B0.size)
    have Q0 := Q0.alloc Q0.lt (.cells #[.string s, .int .i64 (textA s a b n), .int .i64 (textB s a b n)] 23)
    have Q1 := Q1.alloc Q1.lt (.cells #[.string s, .int .i64 (textA s a b n), .int .i64 (textB s a b n)] 23)
    have Q2 := Q2.alloc Q2.lt (.cells #[.string s, .int .i64 (textA s a b n), .int .i64 (textB s a b n)] 23)
    have Q3 := Q3.alloc Q3.lt (.cells #[.string s, .int .i64 (textA s a b n), .int .i64 (textB s a b n)] 23)
    have Q4 := Q4.alloc Q4.lt (.cells #[.string s, .int .i64 (textA s a b n), .int .i64 (textB s a b n)] 23)
    have Q5 : Row3 (w5.alloc (.cells #[.string s, .int .i64 (textA s a b n), .int .i64 (textB s a b n)] 23)) w5.heap.size (.string s) (.int .i64 (textA s a b n)) (.int .i64 (textB s a b n)) := by simp [Row3, go_sem]
    have B0 := B0.alloc B0.size (.cells #[.string s, .int .i64 (textA s a b n), .int .i64 (textB s a b n)] 23)
    obtain ⟨⟨c10, c11, c12⟩, _⟩ := id Q1
    go_wp2_with fail
    clear c10 c11 c12
    refine (rest_any _ _ _ _ hs48).mono ?_
    rintro e w6 ⟨rfl, hb6⟩
    unfold restV
    have Q0 := Q0.call hb6 Q0.lt
    have Q1 := Q1.call hb6 Q1.lt
    have Q2 := Q2.call hb6 Q2.lt
    have Q3 := Q3.call hb6 Q3.lt
    have Q4 := Q4.call hb6 Q4.lt
    have Q5 := Q5.call hb6 Q5.lt
    have B0 := B0.trans (hb6.mono B0.size)
    have Q0 := Q0.alloc Q0.lt (.cells #[.string s, .int .i64 (restA s a b), .int .i64 (chk s a b)] 27)
    have Q1 := Q1.alloc Q1.lt (.cells #[.string s, .int .i64 (restA s a b), .int .i64 (chk s a b)] 27)
    have Q2 := Q2.alloc Q2.lt (.cells #[.string s, .int .i64 (restA s a b), .int .i64 (chk s a b)] 27)
    have Q3 := Q3.alloc Q3.lt (.cells #[.string s, .int .i64 (restA s a b), .int .i64 (chk s a b)] 27)
    have Q4 := Q4.alloc Q4.lt (.cells #[.string s, .int .i64 (restA s a b), .int .i64 (chk s a b)] 27)
    have Q5 := Q5.alloc Q5.lt (.cells #[.string s, .int .i64 (restA s a b), .int .i64 (chk s a b)] 27)
    have Q6 : Row3 (w6.alloc (.cells #[.string s, .int .i64 (restA s a b), .int .i64 (chk s a b)] 27)) w6.heap.size (.string s) (.int .i64 (restA s a b)) (.int .i64 (chk s a b)) := by simp [Row3, go_sem]
    have B0 := B0.alloc B0.size (.cells #[.string s, .int .i64 (restA s a b), .int .i64 (chk s a b)] 27)
    obtain ⟨⟨c00, c01, c02⟩, _⟩ := id Q0
    go_wp2_with fail
    clear c00 c01 c02
    refine (rrest_any _ _ _ _ hs48).mono ?_
    rintro e w7 ⟨rfl, hb7⟩
    unfold restV
    have Q0 := Q0.call hb7 Q0.lt
    have Q1 := Q1.call hb7 Q1.lt
    have Q2 := Q2.call hb7 Q2.lt
    have Q3 := Q3.call hb7 Q3.lt
    have Q4 := Q4.call hb7 Q4.lt
    have Q5 := Q5.call hb7 Q5.lt
    have Q6 := Q6.call hb7 Q6.lt
    have B0 := B0.trans (hb7.mono B0.size)
    have Q0 := Q0.alloc Q0.lt (.cells #[.string s, .int .i64 (restA s a b), .int .i64 (chk s a b)] 23)
    have Q1 := Q1.alloc Q1.lt (.cells #[.string s, .int .i64 (restA s a b), .int .i64 (chk s a b)] 23)
    have Q2 := Q2.alloc Q2.lt (.cells #[.string s, .int .i64 (restA s a b), .int .i64 (chk s a b)] 23)
    have Q3 := Q3.alloc Q3.lt (.cells #[.string s, .int .i64 (restA s a b), .int .i64 (chk s a b)] 23)
    have Q4 := Q4.alloc Q4.lt (.cells #[.string s, .int .i64 (restA s a b), .int .i64 (chk s a b)] 23)
    have Q5 := Q5.alloc Q5.lt (.cells #[.string s, .int .i64 (restA s a b), .int .i64 (chk s a b)] 23)
    have Q6 := Q6.alloc Q6.lt (.cells #[.string s, .int .i64 (restA s a b), .int .i64 (chk s a b)] 23)
    have Q7 : Row3 (w7.alloc (.cells #[.string s, .int .i64 (restA s a b), .int .i64 (chk s a b)] 23)) w7.heap.size (.string s) (.int .i64 (restA s a b)) (.int .i64 (chk s a b)) := by simp [Row3, go_sem]
    have B0 := B0.alloc B0.size (.cells #[.string s, .int .i64 (restA s a b), .int .i64 (chk s a b)] 23)
    go_upto_region 10 with fail
    have hS0 : SS s a b n w.heap.size w1.heap.size w2.heap.size w3.heap.size w4.heap.size w5.heap.size w6.heap.size w7.heap.size (w7.alloc (.cells #[.string s, .int .i64 (restA s a b), .int .i64 (chk s a b)] 23)) := ⟨Q0, Q1, Q2, Q3, Q4, Q5, Q6, Q7⟩
    have hT0 : BB w (w7.alloc (.cells #[.string s, .int .i64 (restA s a b), .int .i64 (chk s a b)] 23)) := B0
    clear Q0 Q1 Q2 Q3 Q4 Q5 Q6 Q7 B0 hb1 hb2 hb3 hb4 hb5 hb6 hb7
    generalize (w7.alloc (.cells #[.string s, .int .i64 (restA s a b), .int .i64 (chk s a b)] 23)) = wx at hS0 hT0 ⊢
    generalize w1.heap.size = k1 at hS0 ⊢
    generalize w2.heap.size = k2 at hS0 ⊢
    generalize w3.heap.size = k3 at hS0 ⊢
    generalize w4.heap.size = k4 at hS0 ⊢
    generalize w5.heap.size = k5 at hS0 ⊢
    generalize w6.heap.size = k6 at hS0 ⊢
    generalize w7.heap.size = k7 at hS0 ⊢
    obtain ⟨k0, hk0⟩ : ∃ k, w.heap.size = k := ⟨_, rfl⟩
    rw [hk0] at hS0 ⊢
    clear hk0
    have hS1 : SS s a b n k0 k1 k2 k3 k4 k5 k6 k7 wx.drew := hS0
    have hT1 : BB w wx.drew := ⟨hT0.os, hT0.tape, hT0.output, hT0.size, hT0.block⟩
    clear hS0 hT0
    have hE := fun x y W => eq_refRead s x y W
    go_region_held3 (fun w' => w'.cell? ⟨k0, 0, none⟩ = some (.string s) ∧ w'.cell? ⟨k0, 1, none⟩ = some (.int .i64 a) ∧ w'.cell? ⟨k0, 2, none⟩ = some (.int .i64 b) ∧ w'.cell? ⟨k1, 0, none⟩ = some (.string s) ∧ w'.cell? ⟨k1, 1, none⟩ = some (.int .i64 a) ∧ w'.cell? ⟨k1, 2, none⟩ = some (.int .i64 b) ∧ w'.cell? ⟨k2, 0, none⟩ = some (.string s) ∧ w'.cell? ⟨k2, 1, none⟩ = some (.int .i64 (numA s a b n)) ∧ w'.cell? ⟨k2, 2, none⟩ = some (.int .i64 (numB s a b n)) ∧ w'.cell? ⟨k3, 0, none⟩ = some (.string s) ∧ w'.cell? ⟨k3, 1, none⟩ = some (.int .i64 (numA s a b n)) ∧ w'.cell? ⟨k3, 2, none⟩ = some (.int .i64 (numB s a b n)) ∧ w'.cell? ⟨k4, 0, none⟩ = some (.string s) ∧ w'.cell? ⟨k4, 1, none⟩ = some (.int .i64 (textA s a b n)) ∧ w'.cell? ⟨k4, 2, none⟩ = some (.int .i64 (textB s a b n)) ∧ w'.cell? ⟨k5, 0, none⟩ = some (.string s) ∧ w'.cell? ⟨k5, 1, none⟩ = some (.int .i64 (textA s a b n)) ∧ w'.cell? ⟨k5, 2, none⟩ = some (.int .i64 (textB s a b n)) ∧ w'.cell? ⟨k6, 0, none⟩ = some (.string s) ∧ w'.cell? ⟨k6, 1, none⟩ = some (.int .i64 (restA s a b)) ∧ w'.cell? ⟨k6, 2, none⟩ = some (.int .i64 (chk s a b)) ∧ w'.cell? ⟨k7, 0, none⟩ = some (.string s) ∧ w'.cell? ⟨k7, 1, none⟩ = some (.int .i64 (restA s a b)) ∧ w'.cell? ⟨k7, 2, none⟩ = some (.int .i64 (chk s a b)))
      (((try dsimp only); exact SS.out (by assumption)))
      (first | (go_at_call 17; (with_reducible refine (back_any _ _ _ _).mono ?_); rintro e wn ⟨rfl, hbn⟩; have hSn := SS.call (s := s) (a := a) (b := b) (n := n) (k0 := k0) (k1 := k1) (k2 := k2) (k3 := k3) (k4 := k4) (k5 := k5) (k6 := k6) (k7 := k7) (by assumption) hbn; have hTn := BB.call (by assumption) hbn) | (go_at_call 18; (with_reducible refine (left_any _ _ _ _ hm).mono ?_); rintro e wn ⟨rfl, hbn⟩; have hSn := SS.call (s := s) (a := a) (b := b) (n := n) (k0 := k0) (k1 := k1) (k2 := k2) (k3 := k3) (k4 := k4) (k5 := k5) (k6 := k6) (k7 := k7) (by assumption) hbn; have hTn := BB.call (by assumption) hbn) | (go_at_call 19; (with_reducible refine (rleft_any _ _ _ _ hm).mono ?_); rintro e wn ⟨rfl, hbn⟩; have hSn := SS.call (s := s) (a := a) (b := b) (n := n) (k0 := k0) (k1 := k1) (k2 := k2) (k3 := k3) (k4 := k4) (k5 := k5) (k6 := k6) (k7 := k7) (by assumption) hbn; have hTn := BB.call (by assumption) hbn) | (go_at_call 20; (with_reducible refine (done_any _ _ _ _ hm).mono ?_); rintro e wn ⟨rfl, hbn⟩; have hSn := SS.call (s := s) (a := a) (b := b) (n := n) (k0 := k0) (k1 := k1) (k2 := k2) (k3 := k3) (k4 := k4) (k5 := k5) (k6 := k6) (k7 := k7) (by assumption) hbn; have hTn := BB.call (by assumption) hbn) | (go_at_call 21; (with_reducible refine (rdone_any _ _ _ _ hm).mono ?_); rintro e wn ⟨rfl, hbn⟩; have hSn := SS.call (s := s) (a := a) (b := b) (n := n) (k0 := k0) (k1 := k1) (k2 := k2) (k3 := k3) (k4 := k4) (k5 := k5) (k6 := k6) (k7 := k7) (by assumption) hbn; have hTn := BB.call (by assumption) hbn) | (go_at_call 22; (with_reducible refine (open_any _ _).mono ?_); rintro e wn ⟨rfl, hbn⟩; have hSn := SS.call (s := s) (a := a) (b := b) (n := n) (k0 := k0) (k1 := k1) (k2 := k2) (k3 := k3) (k4 := k4) (k5 := k5) (k6 := k6) (k7 := k7) (by assumption) hbn; have hTn := BB.call (by assumption) hbn) | (go_at_call 23; (with_reducible refine (ropen_any _ _).mono ?_); rintro e wn ⟨rfl, hbn⟩; have hSn := SS.call (s := s) (a := a) (b := b) (n := n) (k0 := k0) (k1 := k1) (k2 := k2) (k3 := k3) (k4 := k4) (k5 := k5) (k6 := k6) (k7 := k7) (by assumption) hbn; have hTn := BB.call (by assumption) hbn) | (go_at_call 9; (with_reducible refine (awake_any _).mono ?_); rintro e wn ⟨rfl, hbn⟩; have hSn := SS.call (s := s) (a := a) (b := b) (n := n) (k0 := k0) (k1 := k1) (k2 := k2) (k3 := k3) (k4 := k4) (k5 := k5) (k6 := k6) (k7 := k7) (by assumption) hbn; have hTn := BB.call (by assumption) hbn))
    all_goals
      go_wp2
      go_ret
      refine ⟨rfl, ?_⟩
      unfold BB at *
      assumption

theorem open_read {H : Type} {enc : TypeId × Value → H} {w : World} {v : Value} {d : DataW H} {p : List MemPlace} {b0 : Nat}
    (hval : Value.okWide Try.prog w .any b0 23 v) (h : DataW.Trod enc Try.prog w 0 (fun _ => true) true 23 v d p) :
    ∃ (s : ByteArray) (a b : Int), v = .agg #[.string s, .int .i64 a, .int .i64 b] ∧ s.size ≤ maxLen := by
  obtain ⟨v0, v1, v2, y0, y1, y2, n, rfl, _, _, h0, h1, h2⟩ := Joins.open_agg3 Try.underlying23 (by kernel_rfl) (by kernel_rfl) hval h
  obtain ⟨s, e0, hs⟩ : ∃ s : ByteArray, v0 = .string s ∧ s.size ≤ maxLen := by
    have := DataW.trod_string Try.underlying9 h0
    obtain ⟨s, e, _, hs⟩ := this
    simp at e; exact ⟨s, e, hs⟩
  obtain ⟨a, e1, _⟩ := DataW.trod_int Try.underlying3 h1
  obtain ⟨b, e2, _⟩ := DataW.trod_int Try.underlying3 h2
  simp at e1 e2
  subst e0; subst e1; subst e2
  exact ⟨s, a, b, rfl, hs⟩

set_option maxRecDepth 100000 in
theorem reads_lifted (os : Os) (started : os.Started) (H : Type) (enc : TypeId × Value → H) :
    ReturnsInHanded {} Try.checked os 3 .any (Rows.octetReadsSpec.pre6 enc Try.prog Try.f3 Rows.octetReadsRow.domain false) (Rows.octetReadsSpec.post enc Try.prog Try.f3 false true false false) := by
  refine returnsInHanded_of_change (C := Try.checked) own started (by kernel_rfl) Try.func3
    (ChangeSpec.witness6 (enc := enc) (C := Try.checked) false ⟨#[], #[.agg #[.string ⟨#[]⟩, .int .i64 0, .int .i64 0], .int .i64 0], []⟩ 8 (by kernel_rfl) (by kernel_rfl) (by kernel_rfl) (by kernel_rfl)) ?_
  intro W base args ds gs before hval0 hW hcnd _
  have hval : ∀ (j : Nat) t v, Try.f3.params[j]? = some t → args[j]? = some v → Value.okWide Try.prog W .any base t v := hval0
  have hW' := hW
  obtain ⟨p, q, hA0, hV, rfl, hfz, hnd⟩ := hW
  have hA : DataW.TrodAll enc Try.prog W 0 (fun _ => true) true Try.f3.params.toList args.toList ds p := hA0
  rw [Try.params3] at hA hval
  obtain ⟨v0, vs0, d0, ds0, p0, q0, hargs, rfl, rfl, h0, r0⟩ := trodAll_cons hA
  obtain ⟨v1, vs1, d1, ds1, p1, q1, rfl, rfl, rfl, h1, r1⟩ := trodAll_cons r0
  obtain ⟨rfl, rfl, rfl⟩ := trodAll_nil r1
  obtain rfl : args = #[v0, v1] := by cases args; simp_all
  obtain ⟨rfl, rfl⟩ := trodVars_none hV
  obtain ⟨s, a, b, rfl, ws⟩ := open_read (hval 0 23 v0 rfl rfl) h0
  obtain ⟨n, rfl, rfl, rfl, wn⟩ := open_int Try.underlying3 (hval 1 3 v1 rfl rfl) h1
  refine (reads_walk s a b n W ws).mono fun e W' ⟨he, hb⟩ => ?_
  subst he
  exact ⟨_, rfl, law_post rfl rfl Try.underlying4 (by kernel_rfl) rfl hW' hb⟩

theorem reads_holds : Rows.OctetReadsSaid :=
  OpenClaim.holds_of_wide 3 Try.f3 rfl rfl rfl rfl rfl rfl rfl ⟨rfl, rfl, rfl, rfl, rfl⟩ rfl rfl rfl rfl rfl (by kernel_rfl) Try.func3 (by kernel_rfl)
    (of_decide_eq_true (by kernel_rfl)) (by unfold Func.isWrapper; first | (rw [if_pos (by decide +kernel)]; kernel_rfl) | (rw [if_neg (by decide +kernel)]; exact ⟨rfl, rfl⟩))
    (fun os started H enc _ => reads_lifted os started H enc)
end Go.Proofs.Ytodebflmojincaa
