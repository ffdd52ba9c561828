/- Layer 5: contracts of the law's do on nil, and of model. -/
import Derived.Test.YtphgilgmoeliaaaF5X
namespace Go.Proofs.Ytphgilgmoeliaaa
open Go.RowKit
set_option linter.unusedVariables false
set_option linter.unusedSimpArgs false

set_option maxRecDepth 100000 in
set_option maxHeartbeats 4000000 in
theorem do_nil (k n : Int) (w : World) (hk : 0 ≤ k ∧ k ≤ 255) :
    Calls Try.prog 10 #[.pointer none, actV k n] w fun e w' => e = .returned (.tuple #[.int .i64 0, .bool (decide (Int.tmod k 7 = 5))]) ∧ Below w.heap.size w w' := by
  obtain ⟨q, hq, hq0, hq6⟩ : ∃ q : Int, Int.tmod k 7 = q ∧ 0 ≤ q ∧ q ≤ 6 := ⟨_, rfl, by rw [Int.tmod_eq_emod_of_nonneg hk.1]; omega, by rw [Int.tmod_eq_emod_of_nonneg hk.1]; omega⟩
  have hq' : k % 7 = q := by rw [← hq, Int.tmod_eq_emod_of_nonneg hk.1]
  rw [hq]
  have hqs : q = 2 ∨ q = 3 ∨ q = 4 ∨ q = 5 ∨ q = 6 ∨ q = 0 ∨ q = 1 := by omega
  rcases hqs with rfl | rfl | rfl | rfl | rfl | rfl | rfl
  · go_enter Try.func10, Try.ntmps10
    go_wp2_with fail
    refine (push_nil n _).mono ?_; rintro e w2 ⟨rfl, hb2⟩
    go_wp2
    go_ret2
    exact ⟨rfl, by (repeat (first | (with_reducible exact Below.refl _ _) | ((with_reducible refine below_alloc ?_ ?_ _); · (first | omega | (simp; done) | (simp; omega))) | ((with_reducible refine below_setCell ?_ ?_ _); · (first | omega | (simp; done) | (simp; omega))) | (with_reducible refine Below.drew ?_) | (with_reducible refine below_drewN ?_ _) | ((with_reducible refine below_call (by assumption) ?_ ?_); · (first | omega | (simp; done) | (simp; omega)))))⟩
  · go_enter Try.func10, Try.ntmps10
    go_wp2_with fail
    refine (take_nil _).mono ?_; rintro e w2 ⟨rfl, hb2⟩
    go_wp2
    go_ret2
    exact ⟨rfl, by (repeat (first | (with_reducible exact Below.refl _ _) | ((with_reducible refine below_alloc ?_ ?_ _); · (first | omega | (simp; done) | (simp; omega))) | ((with_reducible refine below_setCell ?_ ?_ _); · (first | omega | (simp; done) | (simp; omega))) | (with_reducible refine Below.drew ?_) | (with_reducible refine below_drewN ?_ _) | ((with_reducible refine below_call (by assumption) ?_ ?_); · (first | omega | (simp; done) | (simp; omega)))))⟩
  · go_enter Try.func10, Try.ntmps10
    go_wp2_with fail
    refine (last_nil _).mono ?_; rintro e w2 ⟨rfl, hb2⟩
    go_wp2
    go_ret2
    exact ⟨rfl, by (repeat (first | (with_reducible exact Below.refl _ _) | ((with_reducible refine below_alloc ?_ ?_ _); · (first | omega | (simp; done) | (simp; omega))) | ((with_reducible refine below_setCell ?_ ?_ _); · (first | omega | (simp; done) | (simp; omega))) | (with_reducible refine Below.drew ?_) | (with_reducible refine below_drewN ?_ _) | ((with_reducible refine below_call (by assumption) ?_ ?_); · (first | omega | (simp; done) | (simp; omega)))))⟩
  · go_enter Try.func10, Try.ntmps10
    go_wp2_with fail
    refine (drop_nil n _).mono ?_; rintro e w2 ⟨rfl, hb2⟩
    go_wp2
    go_ret2
    exact ⟨rfl, by (repeat (first | (with_reducible exact Below.refl _ _) | ((with_reducible refine below_alloc ?_ ?_ _); · (first | omega | (simp; done) | (simp; omega))) | ((with_reducible refine below_setCell ?_ ?_ _); · (first | omega | (simp; done) | (simp; omega))) | (with_reducible refine Below.drew ?_) | (with_reducible refine below_drewN ?_ _) | ((with_reducible refine below_call (by assumption) ?_ ?_); · (first | omega | (simp; done) | (simp; omega)))))⟩
  · by_cases h7 : n = 7
    · subst h7
      go_enter Try.func10, Try.ntmps10
      go_wp2_with fail
      refine (clear_nil _).mono ?_; rintro e w2 ⟨rfl, hb2⟩
      go_wp2
      go_ret2
      exact ⟨rfl, by (repeat (first | (with_reducible exact Below.refl _ _) | ((with_reducible refine below_alloc ?_ ?_ _); · (first | omega | (simp; done) | (simp; omega))) | ((with_reducible refine below_setCell ?_ ?_ _); · (first | omega | (simp; done) | (simp; omega))) | (with_reducible refine Below.drew ?_) | (with_reducible refine below_drewN ?_ _) | ((with_reducible refine below_call (by assumption) ?_ ?_); · (first | omega | (simp; done) | (simp; omega)))))⟩
    · have h7' : (n == 7) = false := by simpa using h7
      clear h7
      go_enter Try.func10, Try.ntmps10
      go_wp2
      go_ret2
      exact ⟨rfl, by (repeat (first | (with_reducible exact Below.refl _ _) | ((with_reducible refine below_alloc ?_ ?_ _); · (first | omega | (simp; done) | (simp; omega))) | ((with_reducible refine below_setCell ?_ ?_ _); · (first | omega | (simp; done) | (simp; omega))) | (with_reducible refine Below.drew ?_) | (with_reducible refine below_drewN ?_ _) | ((with_reducible refine below_call (by assumption) ?_ ?_); · (first | omega | (simp; done) | (simp; omega)))))⟩
  · go_enter Try.func10, Try.ntmps10
    go_wp2_with fail
    refine (put_nil n _).mono ?_; rintro e w2 ⟨rfl, hb2⟩
    go_wp2
    go_ret2
    exact ⟨rfl, by (repeat (first | (with_reducible exact Below.refl _ _) | ((with_reducible refine below_alloc ?_ ?_ _); · (first | omega | (simp; done) | (simp; omega))) | ((with_reducible refine below_setCell ?_ ?_ _); · (first | omega | (simp; done) | (simp; omega))) | (with_reducible refine Below.drew ?_) | (with_reducible refine below_drewN ?_ _) | ((with_reducible refine below_call (by assumption) ?_ ?_); · (first | omega | (simp; done) | (simp; omega)))))⟩
  · go_enter Try.func10, Try.ntmps10
    go_wp2_with fail
    refine (put_nil n _).mono ?_; rintro e w2 ⟨rfl, hb2⟩
    go_wp2
    go_ret2
    exact ⟨rfl, by (repeat (first | (with_reducible exact Below.refl _ _) | ((with_reducible refine below_alloc ?_ ?_ _); · (first | omega | (simp; done) | (simp; omega))) | ((with_reducible refine below_setCell ?_ ?_ _); · (first | omega | (simp; done) | (simp; omega))) | (with_reducible refine Below.drew ?_) | (with_reducible refine below_drewN ?_ _) | ((with_reducible refine below_call (by assumption) ?_ ?_); · (first | omega | (simp; done) | (simp; omega)))))⟩

set_option maxRecDepth 100000 in
set_option maxHeartbeats 4000000 in
theorem model_any (N : Nat) (B : Nat → Prop) (v : Value) (L : List Int) (k n : Int) (w : World) (H : IsF w B v L) (hBw : ∀ b, w.heap.size ≤ b → B b) (hl : L.length ≤ 64) (hN : N ≤ 64) (hk : 0 ≤ k ∧ k ≤ 255) :
    Calls Try.prog 11 #[docV N v, actV k n] w fun e w' => ∃ v', e = .returned (.tuple #[docV N v', .int .i64 (doE N L (Int.tmod k 7) n).1, .bool (doE N L (Int.tmod k 7) n).2]) ∧ IsF w' B v' (doS N L (Int.tmod k 7) n) ∧ Below w.heap.size w w' := by
  have HR0 := H.to (B' := fun b => B b ∧ (b < w.heap.size ∨ w.heap.size + 3 ≤ b)) (fun b hb hlt => ⟨hb, .inl hlt⟩)
  have HR := Lib.hid (fun W (hb : Below w.heap.size w W) => HR0.call hb)
  have HB := Lib.hid (fun b (hb : w.heap.size + 3 ≤ b) => (show B b ∧ (b < w.heap.size ∨ w.heap.size + 3 ≤ b) from ⟨hBw b (by omega), .inr hb⟩))
  clear HR0
  obtain ⟨p, cap, rfl, hcap⟩ := H.shape
  clear H
  obtain ⟨q, hq, hq0, hq6⟩ : ∃ q : Int, Int.tmod k 7 = q ∧ 0 ≤ q ∧ q ≤ 6 := ⟨_, rfl, by rw [Int.tmod_eq_emod_of_nonneg hk.1]; omega, by rw [Int.tmod_eq_emod_of_nonneg hk.1]; omega⟩
  have hq' : k % 7 = q := by rw [← hq, Int.tmod_eq_emod_of_nonneg hk.1]
  rw [hq]
  have hqs : q = 2 ∨ q = 3 ∨ q = 4 ∨ q = 5 ∨ q = 6 ∨ q = 0 ∨ q = 1 := by omega
  rcases hqs with rfl | rfl | rfl | rfl | rfl | rfl | rfl
  · have HE := Lib.hid (show doE N L 2 n = (0, decide (L.length < N)) ∧ doS N L 2 n = pushP N L n from ⟨rfl, rfl⟩)
    have cc := fun W (hb : Below w.heap.size w W) (h3 : w.heap.size + 3 ≤ W.heap.size) => dpush_any N _ (.slice p L.length cap) L n W (HR.out _ hb) (fun b hb' => HB.out b (by omega)) hl hN
    go_enter Try.func11, Try.ntmps11
    go_wp2_with fail
    refine (cc _ (by (repeat (first | (with_reducible exact Below.refl _ _) | ((with_reducible refine below_alloc ?_ ?_ _); · (first | omega | (simp; done) | (simp; omega))) | ((with_reducible refine below_setCell ?_ ?_ _); · (first | omega | (simp; done) | (simp; omega))) | (with_reducible refine Below.drew ?_) | (with_reducible refine below_drewN ?_ _) | ((with_reducible refine below_call (by assumption) ?_ ?_); · (first | omega | (simp; done) | (simp; omega)))))) (by simp)).mono ?_; rintro e w2 ⟨v', rfl, hF2, hb2⟩
    obtain ⟨p', cap', rfl, -⟩ := hF2.shape
    have hF2 := Lib.hid hF2
    obtain ⟨hk2, hf2, hz2⟩ := bcellN (n := w.heap.size + 3) (by (try simp only [World.size_drew, World.size_alloc, World.size_setCell]); omega) hb2; have hz2_0 : w.heap.size < w2.heap.size := (by omega); have hz2_1 : w.heap.size + 1 < w2.heap.size := (by omega); have hz2_2 : w.heap.size + 2 < w2.heap.size := (by omega)
    go_wp2
    refine bodyPost_ret (v := .tuple #[docV N (.slice p' (pushP N L n).length cap'), .int .i64 0, .bool (decide (L.length < N))]) (by simp [results, Try.results11, go_sem, hk2, hz2_0, hz2_1, hz2_2]) rfl ⟨_, by rw [HE.out.1], ?_, by (repeat (first | (with_reducible exact Below.refl _ _) | ((with_reducible refine below_alloc ?_ ?_ _); · (first | omega | (simp; done) | (simp; omega))) | ((with_reducible refine below_setCell ?_ ?_ _); · (first | omega | (simp; done) | (simp; omega))) | (with_reducible refine Below.drew ?_) | (with_reducible refine below_drewN ?_ _) | ((with_reducible refine below_call (by assumption) ?_ ?_); · (first | omega | (simp; done) | (simp; omega)))))⟩
    rw [HE.out.2]
    refine IsF.mono (B := fun b => B b ∧ (b < w.heap.size ∨ w.heap.size + 3 ≤ b)) ?_ (fun b hb => hb.1)
    repeat (first | exact hF2.out | refine IsF.alloc ?_ _ | refine IsF.set ?_ (by rintro ⟨-, h | h⟩ <;> omega))
  · have HE := Lib.hid (show doE N L 3 n = (L.headD 0, decide (0 < L.length)) ∧ doS N L 3 n = L.drop 1 from ⟨rfl, rfl⟩)
    have cc := fun W (hb : Below w.heap.size w W) (h3 : w.heap.size + 3 ≤ W.heap.size) => dtake_any N _ (.slice p L.length cap) L W (HR.out _ hb) hl
    obtain ⟨x, hx⟩ : ∃ x, L.headD 0 = x := ⟨_, rfl⟩
    rw [hx] at HE cc
    clear hx
    go_enter Try.func11, Try.ntmps11
    go_wp2_with fail
    refine (cc _ (by (repeat (first | (with_reducible exact Below.refl _ _) | ((with_reducible refine below_alloc ?_ ?_ _); · (first | omega | (simp; done) | (simp; omega))) | ((with_reducible refine below_setCell ?_ ?_ _); · (first | omega | (simp; done) | (simp; omega))) | (with_reducible refine Below.drew ?_) | (with_reducible refine below_drewN ?_ _) | ((with_reducible refine below_call (by assumption) ?_ ?_); · (first | omega | (simp; done) | (simp; omega)))))) (by simp)).mono ?_; rintro e w2 ⟨v', rfl, hF2, hb2⟩
    obtain ⟨p', cap', rfl, -⟩ := hF2.shape
    have hF2 := Lib.hid hF2
    obtain ⟨hk2, hf2, hz2⟩ := bcellN (n := w.heap.size + 3) (by (try simp only [World.size_drew, World.size_alloc, World.size_setCell]); omega) hb2; have hz2_0 : w.heap.size < w2.heap.size := (by omega); have hz2_1 : w.heap.size + 1 < w2.heap.size := (by omega); have hz2_2 : w.heap.size + 2 < w2.heap.size := (by omega)
    go_wp2
    refine bodyPost_ret (v := .tuple #[docV N (.slice p' (L.drop 1).length cap'), .int .i64 x, .bool (decide (0 < L.length))]) (by simp [results, Try.results11, go_sem, hk2, hz2_0, hz2_1, hz2_2]) rfl ⟨_, by rw [HE.out.1], ?_, by (repeat (first | (with_reducible exact Below.refl _ _) | ((with_reducible refine below_alloc ?_ ?_ _); · (first | omega | (simp; done) | (simp; omega))) | ((with_reducible refine below_setCell ?_ ?_ _); · (first | omega | (simp; done) | (simp; omega))) | (with_reducible refine Below.drew ?_) | (with_reducible refine below_drewN ?_ _) | ((with_reducible refine below_call (by assumption) ?_ ?_); · (first | omega | (simp; done) | (simp; omega)))))⟩
    rw [HE.out.2]
    refine IsF.mono (B := fun b => B b ∧ (b < w.heap.size ∨ w.heap.size + 3 ≤ b)) ?_ (fun b hb => hb.1)
    repeat (first | exact hF2.out | refine IsF.alloc ?_ _ | refine IsF.set ?_ (by rintro ⟨-, h | h⟩ <;> omega))
  · have HE := Lib.hid (show doE N L 4 n = (L.getLastD 0, decide (0 < L.length)) ∧ doS N L 4 n = L.dropLast from ⟨rfl, rfl⟩)
    have cc := fun W (hb : Below w.heap.size w W) (h3 : w.heap.size + 3 ≤ W.heap.size) => dlast_any N _ (.slice p L.length cap) L W (HR.out _ hb) hl
    obtain ⟨x, hx⟩ : ∃ x, L.getLastD 0 = x := ⟨_, rfl⟩
    rw [hx] at HE cc
    clear hx
    go_enter Try.func11, Try.ntmps11
    go_wp2_with fail
    refine (cc _ (by (repeat (first | (with_reducible exact Below.refl _ _) | ((with_reducible refine below_alloc ?_ ?_ _); · (first | omega | (simp; done) | (simp; omega))) | ((with_reducible refine below_setCell ?_ ?_ _); · (first | omega | (simp; done) | (simp; omega))) | (with_reducible refine Below.drew ?_) | (with_reducible refine below_drewN ?_ _) | ((with_reducible refine below_call (by assumption) ?_ ?_); · (first | omega | (simp; done) | (simp; omega)))))) (by simp)).mono ?_; rintro e w2 ⟨v', rfl, hF2, hb2⟩
    obtain ⟨p', cap', rfl, -⟩ := hF2.shape
    have hF2 := Lib.hid hF2
    obtain ⟨hk2, hf2, hz2⟩ := bcellN (n := w.heap.size + 3) (by (try simp only [World.size_drew, World.size_alloc, World.size_setCell]); omega) hb2; have hz2_0 : w.heap.size < w2.heap.size := (by omega); have hz2_1 : w.heap.size + 1 < w2.heap.size := (by omega); have hz2_2 : w.heap.size + 2 < w2.heap.size := (by omega)
    go_wp2
    refine bodyPost_ret (v := .tuple #[docV N (.slice p' (L.dropLast).length cap'), .int .i64 x, .bool (decide (0 < L.length))]) (by simp [results, Try.results11, go_sem, hk2, hz2_0, hz2_1, hz2_2]) rfl ⟨_, by rw [HE.out.1], ?_, by (repeat (first | (with_reducible exact Below.refl _ _) | ((with_reducible refine below_alloc ?_ ?_ _); · (first | omega | (simp; done) | (simp; omega))) | ((with_reducible refine below_setCell ?_ ?_ _); · (first | omega | (simp; done) | (simp; omega))) | (with_reducible refine Below.drew ?_) | (with_reducible refine below_drewN ?_ _) | ((with_reducible refine below_call (by assumption) ?_ ?_); · (first | omega | (simp; done) | (simp; omega)))))⟩
    rw [HE.out.2]
    refine IsF.mono (B := fun b => B b ∧ (b < w.heap.size ∨ w.heap.size + 3 ≤ b)) ?_ (fun b hb => hb.1)
    repeat (first | exact hF2.out | refine IsF.alloc ?_ _ | refine IsF.set ?_ (by rintro ⟨-, h | h⟩ <;> omega))
  · have HE := Lib.hid (show doE N L 5 n = (((dropK L n : Nat) : Int), true) ∧ doS N L 5 n = L.drop (dropK L n) from ⟨rfl, rfl⟩)
    have cc := fun W (hb : Below w.heap.size w W) (h3 : w.heap.size + 3 ≤ W.heap.size) => ddrop_any N _ (.slice p L.length cap) n L W (HR.out _ hb) hl
    go_enter Try.func11, Try.ntmps11
    go_wp2_with fail
    refine (cc _ (by (repeat (first | (with_reducible exact Below.refl _ _) | ((with_reducible refine below_alloc ?_ ?_ _); · (first | omega | (simp; done) | (simp; omega))) | ((with_reducible refine below_setCell ?_ ?_ _); · (first | omega | (simp; done) | (simp; omega))) | (with_reducible refine Below.drew ?_) | (with_reducible refine below_drewN ?_ _) | ((with_reducible refine below_call (by assumption) ?_ ?_); · (first | omega | (simp; done) | (simp; omega)))))) (by simp)).mono ?_; rintro e w2 ⟨v', rfl, hF2, hb2⟩
    obtain ⟨p', cap', rfl, -⟩ := hF2.shape
    have hF2 := Lib.hid hF2
    obtain ⟨hk2, hf2, hz2⟩ := bcellN (n := w.heap.size + 3) (by (try simp only [World.size_drew, World.size_alloc, World.size_setCell]); omega) hb2; have hz2_0 : w.heap.size < w2.heap.size := (by omega); have hz2_1 : w.heap.size + 1 < w2.heap.size := (by omega); have hz2_2 : w.heap.size + 2 < w2.heap.size := (by omega)
    go_wp2
    refine bodyPost_ret (v := .tuple #[docV N (.slice p' (L.drop (dropK L n)).length cap'), .int .i64 (dropK L n : Nat), .bool true]) (by simp [results, Try.results11, go_sem, hk2, hz2_0, hz2_1, hz2_2]) rfl ⟨_, by rw [HE.out.1], ?_, by (repeat (first | (with_reducible exact Below.refl _ _) | ((with_reducible refine below_alloc ?_ ?_ _); · (first | omega | (simp; done) | (simp; omega))) | ((with_reducible refine below_setCell ?_ ?_ _); · (first | omega | (simp; done) | (simp; omega))) | (with_reducible refine Below.drew ?_) | (with_reducible refine below_drewN ?_ _) | ((with_reducible refine below_call (by assumption) ?_ ?_); · (first | omega | (simp; done) | (simp; omega)))))⟩
    rw [HE.out.2]
    refine IsF.mono (B := fun b => B b ∧ (b < w.heap.size ∨ w.heap.size + 3 ≤ b)) ?_ (fun b hb => hb.1)
    repeat (first | exact hF2.out | refine IsF.alloc ?_ _ | refine IsF.set ?_ (by rintro ⟨-, h | h⟩ <;> omega))
  · by_cases h7 : n = 7
    · subst h7
      have HE := Lib.hid (show doE N L 6 7 = (0, false) ∧ doS N L 6 7 = [] from ⟨rfl, rfl⟩)
      go_enter Try.func11, Try.ntmps11
      go_wp2
      refine bodyPost_ret (v := .tuple #[docV N (.slice none 0 0), .int .i64 0, .bool false]) (by simp [results, Try.results11, go_sem]) rfl ⟨_, by rw [HE.out.1], ?_, by (repeat (first | (with_reducible exact Below.refl _ _) | ((with_reducible refine below_alloc ?_ ?_ _); · (first | omega | (simp; done) | (simp; omega))) | ((with_reducible refine below_setCell ?_ ?_ _); · (first | omega | (simp; done) | (simp; omega))) | (with_reducible refine Below.drew ?_) | (with_reducible refine below_drewN ?_ _) | ((with_reducible refine below_call (by assumption) ?_ ?_); · (first | omega | (simp; done) | (simp; omega)))))⟩
      rw [HE.out.2]
      exact IsF.nil _ _
    · have HE := Lib.hid (show doE N L 6 n = (0, false) ∧ doS N L 6 n = L from ⟨rfl, by show (if n = 7 then [] else L) = L; rw [if_neg h7]⟩)
      have h7' : (n == 7) = false := by simpa using h7
      clear h7
      go_enter Try.func11, Try.ntmps11
      go_wp2
      refine bodyPost_ret (v := .tuple #[docV N (.slice p L.length cap), .int .i64 0, .bool false]) (by simp [results, Try.results11, go_sem]) rfl ⟨_, by rw [HE.out.1], ?_, by (repeat (first | (with_reducible exact Below.refl _ _) | ((with_reducible refine below_alloc ?_ ?_ _); · (first | omega | (simp; done) | (simp; omega))) | ((with_reducible refine below_setCell ?_ ?_ _); · (first | omega | (simp; done) | (simp; omega))) | (with_reducible refine Below.drew ?_) | (with_reducible refine below_drewN ?_ _) | ((with_reducible refine below_call (by assumption) ?_ ?_); · (first | omega | (simp; done) | (simp; omega)))))⟩
      rw [HE.out.2]
      exact (HR.out _ (by (repeat (first | (with_reducible exact Below.refl _ _) | ((with_reducible refine below_alloc ?_ ?_ _); · (first | omega | (simp; done) | (simp; omega))) | ((with_reducible refine below_setCell ?_ ?_ _); · (first | omega | (simp; done) | (simp; omega))) | (with_reducible refine Below.drew ?_) | (with_reducible refine below_drewN ?_ _) | ((with_reducible refine below_call (by assumption) ?_ ?_); · (first | omega | (simp; done) | (simp; omega))))))).mono (fun b hb => hb.1)
  · have HE := Lib.hid (show doE N L 0 n = (0, decide (L.length < N)) ∧ doS N L 0 n = putP N L n from ⟨rfl, rfl⟩)
    have cc := fun W (hb : Below w.heap.size w W) (h3 : w.heap.size + 3 ≤ W.heap.size) => dput_any N _ (.slice p L.length cap) L n W (HR.out _ hb) (fun b hb' => HB.out b (by omega)) hl hN
    go_enter Try.func11, Try.ntmps11
    go_wp2_with fail
    refine (cc _ (by (repeat (first | (with_reducible exact Below.refl _ _) | ((with_reducible refine below_alloc ?_ ?_ _); · (first | omega | (simp; done) | (simp; omega))) | ((with_reducible refine below_setCell ?_ ?_ _); · (first | omega | (simp; done) | (simp; omega))) | (with_reducible refine Below.drew ?_) | (with_reducible refine below_drewN ?_ _) | ((with_reducible refine below_call (by assumption) ?_ ?_); · (first | omega | (simp; done) | (simp; omega)))))) (by simp)).mono ?_; rintro e w2 ⟨v', rfl, hF2, hb2⟩
    obtain ⟨p', cap', rfl, -⟩ := hF2.shape
    have hF2 := Lib.hid hF2
    obtain ⟨hk2, hf2, hz2⟩ := bcellN (n := w.heap.size + 3) (by (try simp only [World.size_drew, World.size_alloc, World.size_setCell]); omega) hb2; have hz2_0 : w.heap.size < w2.heap.size := (by omega); have hz2_1 : w.heap.size + 1 < w2.heap.size := (by omega); have hz2_2 : w.heap.size + 2 < w2.heap.size := (by omega)
    go_wp2
    refine bodyPost_ret (v := .tuple #[docV N (.slice p' (putP N L n).length cap'), .int .i64 0, .bool (decide (L.length < N))]) (by simp [results, Try.results11, go_sem, hk2, hz2_0, hz2_1, hz2_2]) rfl ⟨_, by rw [HE.out.1], ?_, by (repeat (first | (with_reducible exact Below.refl _ _) | ((with_reducible refine below_alloc ?_ ?_ _); · (first | omega | (simp; done) | (simp; omega))) | ((with_reducible refine below_setCell ?_ ?_ _); · (first | omega | (simp; done) | (simp; omega))) | (with_reducible refine Below.drew ?_) | (with_reducible refine below_drewN ?_ _) | ((with_reducible refine below_call (by assumption) ?_ ?_); · (first | omega | (simp; done) | (simp; omega)))))⟩
    rw [HE.out.2]
    refine IsF.mono (B := fun b => B b ∧ (b < w.heap.size ∨ w.heap.size + 3 ≤ b)) ?_ (fun b hb => hb.1)
    repeat (first | exact hF2.out | refine IsF.alloc ?_ _ | refine IsF.set ?_ (by rintro ⟨-, h | h⟩ <;> omega))
  · have HE := Lib.hid (show doE N L 1 n = (0, decide (L.length < N)) ∧ doS N L 1 n = putP N L n from ⟨rfl, rfl⟩)
    have cc := fun W (hb : Below w.heap.size w W) (h3 : w.heap.size + 3 ≤ W.heap.size) => dput_any N _ (.slice p L.length cap) L n W (HR.out _ hb) (fun b hb' => HB.out b (by omega)) hl hN
    go_enter Try.func11, Try.ntmps11
    go_wp2_with fail
    refine (cc _ (by (repeat (first | (with_reducible exact Below.refl _ _) | ((with_reducible refine below_alloc ?_ ?_ _); · (first | omega | (simp; done) | (simp; omega))) | ((with_reducible refine below_setCell ?_ ?_ _); · (first | omega | (simp; done) | (simp; omega))) | (with_reducible refine Below.drew ?_) | (with_reducible refine below_drewN ?_ _) | ((with_reducible refine below_call (by assumption) ?_ ?_); · (first | omega | (simp; done) | (simp; omega)))))) (by simp)).mono ?_; rintro e w2 ⟨v', rfl, hF2, hb2⟩
    obtain ⟨p', cap', rfl, -⟩ := hF2.shape
    have hF2 := Lib.hid hF2
    obtain ⟨hk2, hf2, hz2⟩ := bcellN (n := w.heap.size + 3) (by (try simp only [World.size_drew, World.size_alloc, World.size_setCell]); omega) hb2; have hz2_0 : w.heap.size < w2.heap.size := (by omega); have hz2_1 : w.heap.size + 1 < w2.heap.size := (by omega); have hz2_2 : w.heap.size + 2 < w2.heap.size := (by omega)
    go_wp2
    refine bodyPost_ret (v := .tuple #[docV N (.slice p' (putP N L n).length cap'), .int .i64 0, .bool (decide (L.length < N))]) (by simp [results, Try.results11, go_sem, hk2, hz2_0, hz2_1, hz2_2]) rfl ⟨_, by rw [HE.out.1], ?_, by (repeat (first | (with_reducible exact Below.refl _ _) | ((with_reducible refine below_alloc ?_ ?_ _); · (first | omega | (simp; done) | (simp; omega))) | ((with_reducible refine below_setCell ?_ ?_ _); · (first | omega | (simp; done) | (simp; omega))) | (with_reducible refine Below.drew ?_) | (with_reducible refine below_drewN ?_ _) | ((with_reducible refine below_call (by assumption) ?_ ?_); · (first | omega | (simp; done) | (simp; omega)))))⟩
    rw [HE.out.2]
    refine IsF.mono (B := fun b => B b ∧ (b < w.heap.size ∨ w.heap.size + 3 ≤ b)) ?_ (fun b hb => hb.1)
    repeat (first | exact hF2.out | refine IsF.alloc ?_ _ | refine IsF.set ?_ (by rintro ⟨-, h | h⟩ <;> omega))
end Go.Proofs.Ytphgilgmoeliaaa
