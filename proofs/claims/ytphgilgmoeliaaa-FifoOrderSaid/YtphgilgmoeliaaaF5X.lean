/- Layer 5: contracts of the law's do and model. -/
import Derived.Test.YtphgilgmoeliaaaF5W
import Derived.Test.YtphgilgmoeliaaaF5G
namespace Go.Proofs.Ytphgilgmoeliaaa
open Go.RowKit
set_option linter.unusedVariables false
set_option linter.unusedSimpArgs false

/-- what a call answers, and what waits behind it -/
def doE (N : Nat) (L : List Int) (q n : Int) : Int × Bool :=
  if q = 2 then (0, decide (L.length < N)) else if q = 3 then (L.headD 0, decide (0 < L.length)) else if q = 4 then (L.getLastD 0, decide (0 < L.length))
  else if q = 5 then ((dropK L n : Nat), true) else if q = 6 then (0, false) else (0, decide (L.length < N))
def doS (N : Nat) (L : List Int) (q n : Int) : List Int :=
  if q = 2 then pushP N L n else if q = 3 then L.drop 1 else if q = 4 then L.dropLast else if q = 5 then L.drop (dropK L n) else if q = 6 then (if n = 7 then [] else L) else putP N L n
abbrev actV (k n : Int) : Value := .agg #[.int .u8 k, .int .i64 n]

theorem last_any (g h N : Nat) (L : List Int) (w : World) (H : IsR w g h N L) :
    Calls Try.prog 23 #[ptrV g] w fun e w' => e = .returned (.tuple #[.int .i64 (L.getLastD 0), .bool (decide (0 < L.length))]) ∧ IsR w' g h N L.dropLast ∧ But2 w w' g h := by
  rcases List.eq_nil_or_concat L with rfl | ⟨L', x, rfl⟩
  · exact last_none g h N w H
  · rw [List.concat_eq_append] at H ⊢
    refine (last_some g h N L' x w H).mono ?_
    rintro e w' ⟨rfl, h1, h2⟩
    refine ⟨by simp, by simpa using h1, h2⟩
theorem dlast_any (N : Nat) (B : Nat → Prop) (v : Value) (L : List Int) (w : World) (H : IsF w B v L) (hl : L.length ≤ 64) :
    Calls Try.prog 28 #[docV N v] w fun e w' => ∃ v', e = .returned (.tuple #[docV N v', .int .i64 (L.getLastD 0), .bool (decide (0 < L.length))]) ∧ IsF w' B v' L.dropLast ∧ Below w.heap.size w w' := by
  rcases List.eq_nil_or_concat L with rfl | ⟨L', x, rfl⟩
  · refine (dlast_none N B v w H).mono ?_
    rintro e w' ⟨rfl, h1⟩
    exact ⟨v, rfl, H.call h1, h1⟩
  · rw [List.concat_eq_append] at H ⊢
    rw [List.concat_eq_append, List.length_append, List.length_singleton] at hl
    refine (dlast_some N B v x L' w H (by omega)).mono ?_
    rintro e w' ⟨v', rfl, h1, h2⟩
    exact ⟨v', by simp, by simpa using h1, h2⟩
theorem dtake_any (N : Nat) (B : Nat → Prop) (v : Value) (L : List Int) (w : World) (H : IsF w B v L) (hl : L.length ≤ 64) :
    Calls Try.prog 27 #[docV N v] w fun e w' => ∃ v', e = .returned (.tuple #[docV N v', .int .i64 (L.headD 0), .bool (decide (0 < L.length))]) ∧ IsF w' B v' (L.drop 1) ∧ Below w.heap.size w w' := by
  cases L with
  | nil =>
    refine (dtake_none N B v w H).mono ?_
    rintro e w' ⟨rfl, h1⟩
    exact ⟨v, rfl, H.call h1, h1⟩
  | cons x L =>
    refine (dtake_some N B v x L w H (by simp at hl; omega)).mono ?_
    rintro e w' ⟨v', rfl, h1, h2⟩
    exact ⟨v', by simp, h1, h2⟩
theorem ret_do {a b : Int} {x y : Bool} (h : (a, x) = (b, y)) : Ending.returned (.tuple #[.int .i64 a, .bool x]) = .returned (.tuple #[.int .i64 b, .bool y]) := by cases h; rfl

set_option maxRecDepth 100000 in
set_option maxHeartbeats 4000000 in
theorem do_any (g h N : Nat) (L : List Int) (k n : Int) (w : World) (H : IsR w g h N L) (hk : 0 ≤ k ∧ k ≤ 255) :
    Calls Try.prog 10 #[ptrV g, actV k n] w fun e w' => e = .returned (.tuple #[.int .i64 (doE N L (Int.tmod k 7) n).1, .bool (doE N L (Int.tmod k 7) n).2]) ∧ IsR w' g h N (doS N L (Int.tmod k 7) n) ∧ But2 w w' g h := by
  have HR := Lib.hid (fun W (hb : Below w.heap.size w W) => H.call hb)
  clear H
  obtain ⟨q, hq, hq0, hq6⟩ : ∃ q : Int, Int.tmod k 7 = q ∧ 0 ≤ q ∧ q ≤ 6 := ⟨_, rfl, by rw [Int.tmod_eq_emod_of_nonneg hk.1]; omega, by rw [Int.tmod_eq_emod_of_nonneg hk.1]; omega⟩
  have hq' : k % 7 = q := by rw [← hq, Int.tmod_eq_emod_of_nonneg hk.1]
  rw [hq]
  have hqs : q = 2 ∨ q = 3 ∨ q = 4 ∨ q = 5 ∨ q = 6 ∨ q = 0 ∨ q = 1 := by omega
  rcases hqs with rfl | rfl | rfl | rfl | rfl | rfl | rfl
  · have HE := Lib.hid (show doE N L 2 n = (0, decide (L.length < N)) ∧ doS N L 2 n = pushP N L n from ⟨rfl, rfl⟩)
    have cc := fun W (hb : Below w.heap.size w W) => push_any g h N L n W (HR.out _ hb)
    go_enter Try.func10, Try.ntmps10
    go_wp2_with fail
    refine (cc _ (by (repeat (first | (with_reducible exact Below.refl _ _) | ((with_reducible refine below_alloc ?_ ?_ _); · (first | omega | (simp; done) | (simp; omega))) | ((with_reducible refine below_setCell ?_ ?_ _); · (first | omega | (simp; done) | (simp; omega))) | (with_reducible refine Below.drew ?_) | (with_reducible refine below_drewN ?_ _) | ((with_reducible refine below_call (by assumption) ?_ ?_); · (first | omega | (simp; done) | (simp; omega))))))).mono ?_; rintro e w2 ⟨rfl, h1, h2⟩
    have H1 := Lib.hid h1
    have H2 := Lib.hid ((But2.below g h (show Below w.heap.size w _ by (repeat (first | (with_reducible exact Below.refl _ _) | ((with_reducible refine below_alloc ?_ ?_ _); · (first | omega | (simp; done) | (simp; omega))) | ((with_reducible refine below_setCell ?_ ?_ _); · (first | omega | (simp; done) | (simp; omega))) | (with_reducible refine Below.drew ?_) | (with_reducible refine below_drewN ?_ _) | ((with_reducible refine below_call (by assumption) ?_ ?_); · (first | omega | (simp; done) | (simp; omega))))))).trans h2)
    clear h1 h2
    go_wp2
    go_ret2
    rw [HE.out.1, HE.out.2]
    exact ⟨rfl, H1.out, H2.out⟩
  · have HE := Lib.hid (show doE N L 3 n = (L.headD 0, decide (0 < L.length)) ∧ doS N L 3 n = L.drop 1 from ⟨rfl, rfl⟩)
    have cc := fun W (hb : Below w.heap.size w W) => take_any g h N L W (HR.out _ hb)
    obtain ⟨x, hx⟩ : ∃ x, L.headD 0 = x := ⟨_, rfl⟩
    rw [hx] at HE cc
    clear hx
    go_enter Try.func10, Try.ntmps10
    go_wp2_with fail
    refine (cc _ (by (repeat (first | (with_reducible exact Below.refl _ _) | ((with_reducible refine below_alloc ?_ ?_ _); · (first | omega | (simp; done) | (simp; omega))) | ((with_reducible refine below_setCell ?_ ?_ _); · (first | omega | (simp; done) | (simp; omega))) | (with_reducible refine Below.drew ?_) | (with_reducible refine below_drewN ?_ _) | ((with_reducible refine below_call (by assumption) ?_ ?_); · (first | omega | (simp; done) | (simp; omega))))))).mono ?_; rintro e w2 ⟨rfl, h1, h2⟩
    have H1 := Lib.hid h1
    have H2 := Lib.hid ((But2.below g h (show Below w.heap.size w _ by (repeat (first | (with_reducible exact Below.refl _ _) | ((with_reducible refine below_alloc ?_ ?_ _); · (first | omega | (simp; done) | (simp; omega))) | ((with_reducible refine below_setCell ?_ ?_ _); · (first | omega | (simp; done) | (simp; omega))) | (with_reducible refine Below.drew ?_) | (with_reducible refine below_drewN ?_ _) | ((with_reducible refine below_call (by assumption) ?_ ?_); · (first | omega | (simp; done) | (simp; omega))))))).trans h2)
    clear h1 h2
    go_wp2
    go_ret2
    rw [HE.out.1, HE.out.2]
    exact ⟨rfl, H1.out, H2.out⟩
  · have HE := Lib.hid (show doE N L 4 n = (L.getLastD 0, decide (0 < L.length)) ∧ doS N L 4 n = L.dropLast from ⟨rfl, rfl⟩)
    have cc := fun W (hb : Below w.heap.size w W) => last_any g h N L W (HR.out _ hb)
    obtain ⟨x, hx⟩ : ∃ x, L.getLastD 0 = x := ⟨_, rfl⟩
    rw [hx] at HE cc
    clear hx
    go_enter Try.func10, Try.ntmps10
    go_wp2_with fail
    refine (cc _ (by (repeat (first | (with_reducible exact Below.refl _ _) | ((with_reducible refine below_alloc ?_ ?_ _); · (first | omega | (simp; done) | (simp; omega))) | ((with_reducible refine below_setCell ?_ ?_ _); · (first | omega | (simp; done) | (simp; omega))) | (with_reducible refine Below.drew ?_) | (with_reducible refine below_drewN ?_ _) | ((with_reducible refine below_call (by assumption) ?_ ?_); · (first | omega | (simp; done) | (simp; omega))))))).mono ?_; rintro e w2 ⟨rfl, h1, h2⟩
    have H1 := Lib.hid h1
    have H2 := Lib.hid ((But2.below g h (show Below w.heap.size w _ by (repeat (first | (with_reducible exact Below.refl _ _) | ((with_reducible refine below_alloc ?_ ?_ _); · (first | omega | (simp; done) | (simp; omega))) | ((with_reducible refine below_setCell ?_ ?_ _); · (first | omega | (simp; done) | (simp; omega))) | (with_reducible refine Below.drew ?_) | (with_reducible refine below_drewN ?_ _) | ((with_reducible refine below_call (by assumption) ?_ ?_); · (first | omega | (simp; done) | (simp; omega))))))).trans h2)
    clear h1 h2
    go_wp2
    go_ret2
    rw [HE.out.1, HE.out.2]
    exact ⟨rfl, H1.out, H2.out⟩
  · have HE := Lib.hid (show doE N L 5 n = (((dropK L n : Nat) : Int), true) ∧ doS N L 5 n = L.drop (dropK L n) from ⟨rfl, rfl⟩)
    have cc := fun W (hb : Below w.heap.size w W) => drop_any g h N L n W (HR.out _ hb)
    go_enter Try.func10, Try.ntmps10
    go_wp2_with fail
    refine (cc _ (by (repeat (first | (with_reducible exact Below.refl _ _) | ((with_reducible refine below_alloc ?_ ?_ _); · (first | omega | (simp; done) | (simp; omega))) | ((with_reducible refine below_setCell ?_ ?_ _); · (first | omega | (simp; done) | (simp; omega))) | (with_reducible refine Below.drew ?_) | (with_reducible refine below_drewN ?_ _) | ((with_reducible refine below_call (by assumption) ?_ ?_); · (first | omega | (simp; done) | (simp; omega))))))).mono ?_; rintro e w2 ⟨rfl, h1, h2⟩
    have H1 := Lib.hid h1
    have H2 := Lib.hid ((But2.below g h (show Below w.heap.size w _ by (repeat (first | (with_reducible exact Below.refl _ _) | ((with_reducible refine below_alloc ?_ ?_ _); · (first | omega | (simp; done) | (simp; omega))) | ((with_reducible refine below_setCell ?_ ?_ _); · (first | omega | (simp; done) | (simp; omega))) | (with_reducible refine Below.drew ?_) | (with_reducible refine below_drewN ?_ _) | ((with_reducible refine below_call (by assumption) ?_ ?_); · (first | omega | (simp; done) | (simp; omega))))))).trans h2)
    clear h1 h2
    go_wp2
    go_ret2
    rw [HE.out.1, HE.out.2]
    exact ⟨rfl, H1.out, H2.out⟩
  · by_cases h7 : n = 7
    · subst h7
      have HE := Lib.hid (show doE N L 6 7 = (0, false) ∧ doS N L 6 7 = [] from ⟨rfl, rfl⟩)
      have cc := fun W (hb : Below w.heap.size w W) => clear_any g h N L W (HR.out _ hb)
      go_enter Try.func10, Try.ntmps10
      go_wp2_with fail
      refine (cc _ (by (repeat (first | (with_reducible exact Below.refl _ _) | ((with_reducible refine below_alloc ?_ ?_ _); · (first | omega | (simp; done) | (simp; omega))) | ((with_reducible refine below_setCell ?_ ?_ _); · (first | omega | (simp; done) | (simp; omega))) | (with_reducible refine Below.drew ?_) | (with_reducible refine below_drewN ?_ _) | ((with_reducible refine below_call (by assumption) ?_ ?_); · (first | omega | (simp; done) | (simp; omega))))))).mono ?_; rintro e w2 ⟨rfl, h1, h2⟩
      have H1 := Lib.hid h1
      have H2 := Lib.hid ((But2.below g h (show Below w.heap.size w _ by (repeat (first | (with_reducible exact Below.refl _ _) | ((with_reducible refine below_alloc ?_ ?_ _); · (first | omega | (simp; done) | (simp; omega))) | ((with_reducible refine below_setCell ?_ ?_ _); · (first | omega | (simp; done) | (simp; omega))) | (with_reducible refine Below.drew ?_) | (with_reducible refine below_drewN ?_ _) | ((with_reducible refine below_call (by assumption) ?_ ?_); · (first | omega | (simp; done) | (simp; omega))))))).trans h2)
      clear h1 h2
      go_wp2
      go_ret2
      rw [HE.out.1, HE.out.2]
      exact ⟨rfl, H1.out, H2.out⟩
    · have HE := Lib.hid (show doE N L 6 n = (0, false) ∧ doS N L 6 n = L from ⟨rfl, by show (if n = 7 then [] else L) = L; rw [if_neg h7]⟩)
      have h7' : (n == 7) = false := by simpa using h7
      clear h7
      go_enter Try.func10, Try.ntmps10
      go_wp2
      go_ret2
      rw [HE.out.1, HE.out.2]
      exact ⟨rfl, HR.out _ (by (repeat (first | (with_reducible exact Below.refl _ _) | ((with_reducible refine below_alloc ?_ ?_ _); · (first | omega | (simp; done) | (simp; omega))) | ((with_reducible refine below_setCell ?_ ?_ _); · (first | omega | (simp; done) | (simp; omega))) | (with_reducible refine Below.drew ?_) | (with_reducible refine below_drewN ?_ _) | ((with_reducible refine below_call (by assumption) ?_ ?_); · (first | omega | (simp; done) | (simp; omega)))))), But2.below g h (by (repeat (first | (with_reducible exact Below.refl _ _) | ((with_reducible refine below_alloc ?_ ?_ _); · (first | omega | (simp; done) | (simp; omega))) | ((with_reducible refine below_setCell ?_ ?_ _); · (first | omega | (simp; done) | (simp; omega))) | (with_reducible refine Below.drew ?_) | (with_reducible refine below_drewN ?_ _) | ((with_reducible refine below_call (by assumption) ?_ ?_); · (first | omega | (simp; done) | (simp; omega))))))⟩
  · have HE := Lib.hid (show doE N L 0 n = (0, decide (L.length < N)) ∧ doS N L 0 n = putP N L n from ⟨rfl, rfl⟩)
    have cc := fun W (hb : Below w.heap.size w W) => put_any g h N L n W (HR.out _ hb)
    go_enter Try.func10, Try.ntmps10
    go_wp2_with fail
    refine (cc _ (by (repeat (first | (with_reducible exact Below.refl _ _) | ((with_reducible refine below_alloc ?_ ?_ _); · (first | omega | (simp; done) | (simp; omega))) | ((with_reducible refine below_setCell ?_ ?_ _); · (first | omega | (simp; done) | (simp; omega))) | (with_reducible refine Below.drew ?_) | (with_reducible refine below_drewN ?_ _) | ((with_reducible refine below_call (by assumption) ?_ ?_); · (first | omega | (simp; done) | (simp; omega))))))).mono ?_; rintro e w2 ⟨rfl, h1, h2⟩
    have H1 := Lib.hid h1
    have H2 := Lib.hid ((But2.below g h (show Below w.heap.size w _ by (repeat (first | (with_reducible exact Below.refl _ _) | ((with_reducible refine below_alloc ?_ ?_ _); · (first | omega | (simp; done) | (simp; omega))) | ((with_reducible refine below_setCell ?_ ?_ _); · (first | omega | (simp; done) | (simp; omega))) | (with_reducible refine Below.drew ?_) | (with_reducible refine below_drewN ?_ _) | ((with_reducible refine below_call (by assumption) ?_ ?_); · (first | omega | (simp; done) | (simp; omega))))))).trans h2)
    clear h1 h2
    go_wp2
    go_ret2
    rw [HE.out.1, HE.out.2]
    exact ⟨rfl, H1.out, H2.out⟩
  · have HE := Lib.hid (show doE N L 1 n = (0, decide (L.length < N)) ∧ doS N L 1 n = putP N L n from ⟨rfl, rfl⟩)
    have cc := fun W (hb : Below w.heap.size w W) => put_any g h N L n W (HR.out _ hb)
    go_enter Try.func10, Try.ntmps10
    go_wp2_with fail
    refine (cc _ (by (repeat (first | (with_reducible exact Below.refl _ _) | ((with_reducible refine below_alloc ?_ ?_ _); · (first | omega | (simp; done) | (simp; omega))) | ((with_reducible refine below_setCell ?_ ?_ _); · (first | omega | (simp; done) | (simp; omega))) | (with_reducible refine Below.drew ?_) | (with_reducible refine below_drewN ?_ _) | ((with_reducible refine below_call (by assumption) ?_ ?_); · (first | omega | (simp; done) | (simp; omega))))))).mono ?_; rintro e w2 ⟨rfl, h1, h2⟩
    have H1 := Lib.hid h1
    have H2 := Lib.hid ((But2.below g h (show Below w.heap.size w _ by (repeat (first | (with_reducible exact Below.refl _ _) | ((with_reducible refine below_alloc ?_ ?_ _); · (first | omega | (simp; done) | (simp; omega))) | ((with_reducible refine below_setCell ?_ ?_ _); · (first | omega | (simp; done) | (simp; omega))) | (with_reducible refine Below.drew ?_) | (with_reducible refine below_drewN ?_ _) | ((with_reducible refine below_call (by assumption) ?_ ?_); · (first | omega | (simp; done) | (simp; omega))))))).trans h2)
    clear h1 h2
    go_wp2
    go_ret2
    rw [HE.out.1, HE.out.2]
    exact ⟨rfl, H1.out, H2.out⟩
end Go.Proofs.Ytphgilgmoeliaaa
