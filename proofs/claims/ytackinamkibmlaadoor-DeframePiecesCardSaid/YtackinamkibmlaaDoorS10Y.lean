/- Layer 10, the program's: a field's bytes, Put and Size. -/
import Derived.Test.YtackinamkibmlaaDoorS10QX
import Derived.Test.YtackinamkibmlaaDoorOctAH
namespace Go.Proofs.YtackinamkibmlaaDoor
open Go.RowKit
set_option linter.unusedVariables false
set_option linter.unusedSimpArgs false

theorem bind_ret {w W w1 : World} {v : Value} {l : List UInt8} (hB : Below w.heap.size w W) (hv : IsB w1 W.heap.size v l) (hb : Below W.heap.size W w1) : RetB w l 0 (.returned (.tuple #[v, .int .i64 0])) w1 :=
  RetB.mk (hv.mono hB.size) (hB.trans (hb.mono hB.size))
set_option maxHeartbeats 4000000 in
set_option maxRecDepth 1000000 in
theorem slay_n (g i : Nat) (lo hi wd z : Int) (l : List UInt8) (w : World) (h : w.cell? ⟨g, i, none⟩ = some (.int .i64 z)) (hw : IntKind.i64.wrap (z - lo) = z - lo) (h0 : -9223372036854775808 ≤ z - lo) (h1 : z - lo ≤ 9223372036854775807)
    (hE : layE (z - lo) wd = 0) (hL : layL (z - lo) wd = l) :
    Calls Tryd.prog 65 #[.agg #[.pointer none, .pointer (some ⟨g, i, none⟩), .int .i64 lo, .int .i64 hi, .int .i64 wd]] w (RetB w l 0) := by
  have hlt := World.block_lt_of_cell? _ _ h
  replace hlt : g < w.heap.size := hlt
  have c := fun W => lay_any (z - lo) wd W h0 h1
  rw [hE, hL] at c
  have HB : Hid (Below w.heap.size w (w.alloc (.cells #[.pointer none, .pointer (some ⟨g, i, none⟩), .int .i64 lo, .int .i64 hi, .int .i64 wd] 87))) := Lib.hid ((Below.refl _ w).alloc (Nat.le_refl _) _)
  clear hE hL h0 h1
  generalize hY : z - lo = y at hw c
  go_enter Tryd.func65, Tryd.ntmps65
  go_wp2_with fail
  go_region_with (go_at_call 66; refine (c _).mono ?_; rintro e w1 ⟨v, rfl, hv, hb1⟩)
  all_goals go_wp2
  all_goals go_ret2
  all_goals exact bind_ret (by (repeat (first | (with_reducible exact Below.refl _ _) | ((with_reducible refine below_alloc ?_ ?_ _); · (first | omega | (simp; done) | (simp; omega))) | ((with_reducible refine below_setCell ?_ ?_ _); · (first | omega | (simp; done) | (simp; omega))) | (with_reducible refine Below.drew ?_) | (with_reducible refine below_drewN ?_ _) | ((with_reducible refine below_call (by assumption) ?_ ?_); · (first | omega | (simp; done) | (simp; omega)))))) hv hb1
set_option maxHeartbeats 4000000 in
set_option maxRecDepth 1000000 in
theorem slay_t (g i : Nat) (lo hi wd : Int) (s : ByteArray) (l : List UInt8) (w : World) (h : w.cell? ⟨g, i, none⟩ = some (.string s)) (hE : sayE s hi = 0) (hL : sayL s hi = l) :
    Calls Tryd.prog 65 #[.agg #[.pointer (some ⟨g, i, none⟩), .pointer none, .int .i64 lo, .int .i64 hi, .int .i64 wd]] w (RetB w l 0) := by
  have hlt := World.block_lt_of_cell? _ _ h
  replace hlt : g < w.heap.size := hlt
  have c := fun W => say_any s hi W
  rw [hE, hL] at c
  have HB : Hid (Below w.heap.size w (w.alloc (.cells #[.pointer (some ⟨g, i, none⟩), .pointer none, .int .i64 lo, .int .i64 hi, .int .i64 wd] 87))) := Lib.hid ((Below.refl _ w).alloc (Nat.le_refl _) _)
  clear hE hL
  go_enter Tryd.func65, Tryd.ntmps65
  go_wp2_with fail
  go_region_with (go_at_call 78; refine (c _).mono ?_; rintro e w1 ⟨v, rfl, hv, hb1⟩)
  all_goals go_wp2
  all_goals go_ret2
  all_goals exact bind_ret (by (repeat (first | (with_reducible exact Below.refl _ _) | ((with_reducible refine below_alloc ?_ ?_ _); · (first | omega | (simp; done) | (simp; omega))) | ((with_reducible refine below_setCell ?_ ?_ _); · (first | omega | (simp; done) | (simp; omega))) | (with_reducible refine Below.drew ?_) | (with_reducible refine below_drewN ?_ _) | ((with_reducible refine below_call (by assumption) ?_ ?_); · (first | omega | (simp; done) | (simp; omega)))))) hv hb1
theorem say_fit {s : ByteArray} {m : Int} (h : (s.size : Int) ≤ m) (h2 : s.size ≤ 255) : sayE s m = 0 ∧ sayL s m = sayB s := by
  have e : sayE s m = 0 := if_neg (by omega)
  exact ⟨e, if_pos e⟩
theorem lay_fit {n : Int} {k : Nat} (hw : wide (k : Int) = true) (h0 : 0 ≤ n) (h1 : n < 256 ^ k) : layE n (k : Int) = 0 ∧ layL n (k : Int) = lay n k := by
  have e : layE n (k : Int) = 0 := by
    unfold layE
    rw [if_neg (by rw [hw]; decide), if_neg]
    rw [Int.toNat_natCast]
    rintro (h | h)
    · omega
    · exact h (Int.ediv_eq_zero_of_lt h0 h1)
  refine ⟨e, ?_⟩
  unfold layL
  rw [if_pos e, Int.toNat_natCast]
theorem slay_any (c : Lt) (g : Nat) (x : St) (w : World) (h : Bx8 w g x) (hf : fitF x c) : Calls Tryd.prog 65 #[fldV g c] w (RetB w (putF x c) 0) := by
  cases c with
  | lu =>
    obtain ⟨a, b⟩ := say_fit (s := x.u) (m := 33) (by simp only [fitF] at hf; omega) (by simp only [fitF] at hf; omega)
    exact slay_t g 1 0 33 0 x.u _ w (h.txt (c := .lu) rfl) a b
  | lr =>
    obtain ⟨a, b⟩ := say_fit (s := x.r) (m := 12) (by simp only [fitF] at hf; omega) (by simp only [fitF] at hf; omega)
    exact slay_t g 2 0 12 0 x.r _ w (h.txt (c := .lr) rfl) a b
  | lm =>
    obtain ⟨a, b⟩ := say_fit (s := x.m) (m := 24) (by simp only [fitF] at hf; omega) (by simp only [fitF] at hf; omega)
    exact slay_t g 3 0 24 0 x.m _ w (h.txt (c := .lm) rfl) a b
  | ls =>
    simp only [fitF] at hf
    obtain ⟨a, b⟩ := lay_fit (n := x.s) (k := 1) rfl hf.1 (by omega)
    exact slay_n g 4 0 63 1 x.s _ w (h.num (c := .ls) rfl) (by rw [Int.sub_zero]; exact IntWalk.i64_in _ (by omega)) (by omega) (by omega) (by rw [Int.sub_zero]; exact a) (by rw [Int.sub_zero]; exact b)
  | lp =>
    simp only [fitF] at hf
    obtain ⟨a, b⟩ := lay_fit (n := x.p - (-128)) (k := 1) rfl (by omega) (by omega)
    exact slay_n g 5 (-128) 127 1 x.p _ w (h.num (c := .lp) rfl) (IntWalk.i64_in _ (by omega)) (by omega) (by omega) a (by rw [show putF x .lp = lay (x.p + 128) 1 from rfl, show x.p + 128 = x.p - (-128) by omega]; exact b)
  | lc =>
    simp only [fitF] at hf
    obtain ⟨a, b⟩ := lay_fit (n := x.c) (k := 1) rfl hf.1 (by omega)
    exact slay_n g 6 0 255 1 x.c _ w (h.num (c := .lc) rfl) (by rw [Int.sub_zero]; exact IntWalk.i64_in _ (by omega)) (by omega) (by omega) (by rw [Int.sub_zero]; exact a) (by rw [Int.sub_zero]; exact b)
  | ln =>
    simp only [fitF] at hf
    obtain ⟨a, b⟩ := lay_fit (n := x.n) (k := 6) rfl hf.1 (by omega)
    exact slay_n g 7 0 281474976710655 6 x.n _ w (h.num (c := .ln) rfl) (by rw [Int.sub_zero]; exact IntWalk.i64_in _ (by omega)) (by omega) (by omega) (by rw [Int.sub_zero]; exact a) (by rw [Int.sub_zero]; exact b)
end Go.Proofs.YtackinamkibmlaaDoor
