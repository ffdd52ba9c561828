/- Layer 8: things that are charged, and charged no more: the program's. -/
import Derived.Test.YtkohdfmhigejoaaG8F
namespace Go.Proofs.Ytkohdfmhigejoaa
open Go.RowKit
set_option linter.unusedVariables false
set_option linter.unusedSimpArgs false

/-- d more of a kind -/
def addAt (k j a d : Int) : Int := if k = j then a + d else a
theorem addAt_same (j a d : Int) : addAt j j a d = a + d := if_pos rfl
theorem addAt_other {k j : Int} (h : ¬ k = j) (a d : Int) : addAt k j a d = a := if_neg h
theorem addAt_none (k j a : Int) : addAt k j a 0 = a := by unfold addAt; split <;> omega
/-- how many there are of a kind -/
def manyAt (k a0 a1 a2 a3 a4 a5 : Int) : Int := if k = 0 then a0 else if k = 1 then a1 else if k = 2 then a2 else if k = 3 then a3 else if k = 4 then a4 else if k = 5 then a5 else 0
def takeB (c a0 a1 a2 a3 a4 a5 k n : Int) : Bool := mayB c a0 a1 a2 a3 a4 a5 k n && decide (n ≤ roomN c a0 a1 a2 a3 a4 a5 k)
def giveB (c a0 a1 a2 a3 a4 a5 k n : Int) : Bool := mayB c a0 a1 a2 a3 a4 a5 k n && decide (n ≤ manyAt k a0 a1 a2 a3 a4 a5)
def takeD (c a0 a1 a2 a3 a4 a5 k n : Int) : Int := if takeB c a0 a1 a2 a3 a4 a5 k n = true then n else 0
def giveD (c a0 a1 a2 a3 a4 a5 k n : Int) : Int := if giveB c a0 a1 a2 a3 a4 a5 k n = true then -n else 0
/-- a state with d more of a kind -/
abbrev addV (c a0 a1 a2 a3 a4 a5 k d : Int) : Value := stV c (addAt k 0 a0 d) (addAt k 1 a1 d) (addAt k 2 a2 d) (addAt k 3 a3 d) (addAt k 4 a4 d) (addAt k 5 a5 d)
theorem addV_none (c a0 a1 a2 a3 a4 a5 k : Int) : addV c a0 a1 a2 a3 a4 a5 k 0 = stV c a0 a1 a2 a3 a4 a5 := by
  unfold addV; simp only [addAt_none]
theorem kindB_at {k : Int} (h : kindB k = true) : k = 0 ∨ k = 1 ∨ k = 2 ∨ k = 3 ∨ k = 4 ∨ k = 5 := by
  have := inB_iff.1 h
  omega
theorem may_parts {c a0 a1 a2 a3 a4 a5 k n : Int} (h : mayB c a0 a1 a2 a3 a4 a5 k n = true) : 0 ≤ n ∧ kindB k = true ∧ chkN c a0 a1 a2 a3 a4 a5 = 0 := by
  unfold mayB at h
  simp only [Bool.and_eq_true, decide_eq_true_eq] at h
  exact h
theorem may_of {c a0 a1 a2 a3 a4 a5 k n : Int} (h0 : 0 ≤ n) (h1 : kindB k = true) (h2 : chkN c a0 a1 a2 a3 a4 a5 = 0) : mayB c a0 a1 a2 a3 a4 a5 k n = true := by
  unfold mayB
  simp [h0, h1, h2]
set_option maxRecDepth 100000 in
set_option maxHeartbeats 4000000 in
theorem take_any (c a0 a1 a2 a3 a4 a5 k n : Int) (w : World) :
    Calls Try.prog 7 #[stV c a0 a1 a2 a3 a4 a5, .int .i64 k, .int .i64 n] w fun e w' => e = .returned (.tuple #[addV c a0 a1 a2 a3 a4 a5 k (takeD c a0 a1 a2 a3 a4 a5 k n), .bool (takeB c a0 a1 a2 a3 a4 a5 k n)]) ∧ Below w.heap.size w w' := by
  have cm := fun W => may_any c a0 a1 a2 a3 a4 a5 k n W
  cases hm : mayB c a0 a1 a2 a3 a4 a5 k n with
  | false =>
    have hB : takeB c a0 a1 a2 a3 a4 a5 k n = false := by unfold takeB; rw [hm]; rfl
    rw [show takeD c a0 a1 a2 a3 a4 a5 k n = 0 from if_neg (by rw [hB]; decide), hB, addV_none]
    rw [hm] at cm
    clear hm hB
    simp only [stV] at *
    go_enter Try.func7, Try.ntmps7
    go_wp2_with fail
    refine (cm _).mono ?_; rintro e w1 ⟨rfl, hb1⟩
    obtain ⟨hk1, hf1, hz1⟩ := bcellN (n := w.heap.size + 2) (by (try simp only [World.size_drew, World.size_alloc, World.size_setCell]); omega) hb1; have hz1_0 : w.heap.size < w1.heap.size := (by omega); have hz1_1 : w.heap.size + 1 < w1.heap.size := (by omega)
    go_wp2
    refine bodyPost_ret (v := .tuple #[stV c a0 a1 a2 a3 a4 a5, .bool false]) (by simp [results, Try.results7, go_sem, hk1, hz1_0, hz1_1]) rfl ⟨rfl, ?_⟩
    (repeat (first | (with_reducible exact Below.refl _ _) | ((with_reducible refine below_alloc ?_ ?_ _); · (first | omega | (simp; done) | (simp; omega))) | ((with_reducible refine below_setCell ?_ ?_ _); · (first | omega | (simp; done) | (simp; omega))) | (with_reducible refine Below.drew ?_) | (with_reducible refine below_drewN ?_ _) | ((with_reducible refine below_call (by assumption) ?_ ?_); · (first | omega | (simp; done) | (simp; omega)))))
  | true =>
    obtain ⟨hn, hk, h0⟩ := may_parts hm
    obtain ⟨hs, hc, hq0, hq1⟩ := chk0 h0
    obtain ⟨r0, r1⟩ := roomN_bd c a0 a1 a2 a3 a4 a5 k hk
    have cr := Lib.hid (fun W => room_any c a0 a1 a2 a3 a4 a5 k W hk)
    rw [hm] at cm
    by_cases hle : n ≤ roomN c a0 a1 a2 a3 a4 a5 k
    · have hB : takeB c a0 a1 a2 a3 a4 a5 k n = true := by unfold takeB; rw [hm]; simp [hle]
      rw [show takeD c a0 a1 a2 a3 a4 a5 k n = n from if_pos hB, hB]
      have HL := Lib.hid hle
      clear hm hB hq0 hq1
      unfold Smal at hs
      have hn2 : n ≤ 4096 := by omega
      rcases kindB_at hk with rfl | rfl | rfl | rfl | rfl | rfl
      · rw [show addV c a0 a1 a2 a3 a4 a5 0 n = stV c (a0 + n) a1 a2 a3 a4 a5 from by unfold addV; simp [addAt]]
        have hw : IntKind.i64.wrap (a0 + n) = a0 + n := IntWalk.i64_in _ (by omega)
        clear hs hk h0
        simp only [stV] at *
        go_enter Try.func7, Try.ntmps7
        go_wp2_with fail
        refine (cm _).mono ?_; rintro e w1 ⟨rfl, hb1⟩
        obtain ⟨hk1, hf1, hz1⟩ := bcellN (n := w.heap.size + 2) (by (try simp only [World.size_drew, World.size_alloc, World.size_setCell]); omega) hb1; have hz1_0 : w.heap.size < w1.heap.size := (by omega); have hz1_1 : w.heap.size + 1 < w1.heap.size := (by omega)
        go_wp2_with fail
        refine (cr.out _).mono ?_; rintro e w2 ⟨rfl, hb2⟩
        obtain ⟨hk2, hf2, hz2⟩ := bcellN (n := w.heap.size + 2) (by (try simp only [World.size_drew, World.size_alloc, World.size_setCell]); omega) hb2; have hz2_0 : w.heap.size < w2.heap.size := (by omega); have hz2_1 : w.heap.size + 1 < w2.heap.size := (by omega)
        go_wp2
        refine bodyPost_ret (v := .tuple #[stV c (a0 + n) a1 a2 a3 a4 a5, .bool true]) (by simp [results, Try.results7, go_sem, hk1, hz1_0, hz1_1, hk2, hz2_0, hz2_1]) rfl ⟨rfl, ?_⟩
        (repeat (first | (with_reducible exact Below.refl _ _) | ((with_reducible refine below_alloc ?_ ?_ _); · (first | omega | (simp; done) | (simp; omega))) | ((with_reducible refine below_setCell ?_ ?_ _); · (first | omega | (simp; done) | (simp; omega))) | (with_reducible refine Below.drew ?_) | (with_reducible refine below_drewN ?_ _) | ((with_reducible refine below_call (by assumption) ?_ ?_); · (first | omega | (simp; done) | (simp; omega)))))
      · rw [show addV c a0 a1 a2 a3 a4 a5 1 n = stV c a0 (a1 + n) a2 a3 a4 a5 from by unfold addV; simp [addAt]]
        have hw : IntKind.i64.wrap (a1 + n) = a1 + n := IntWalk.i64_in _ (by omega)
        clear hs hk h0
        simp only [stV] at *
        go_enter Try.func7, Try.ntmps7
        go_wp2_with fail
        refine (cm _).mono ?_; rintro e w1 ⟨rfl, hb1⟩
        obtain ⟨hk1, hf1, hz1⟩ := bcellN (n := w.heap.size + 2) (by (try simp only [World.size_drew, World.size_alloc, World.size_setCell]); omega) hb1; have hz1_0 : w.heap.size < w1.heap.size := (by omega); have hz1_1 : w.heap.size + 1 < w1.heap.size := (by omega)
        go_wp2_with fail
        refine (cr.out _).mono ?_; rintro e w2 ⟨rfl, hb2⟩
        obtain ⟨hk2, hf2, hz2⟩ := bcellN (n := w.heap.size + 2) (by (try simp only [World.size_drew, World.size_alloc, World.size_setCell]); omega) hb2; have hz2_0 : w.heap.size < w2.heap.size := (by omega); have hz2_1 : w.heap.size + 1 < w2.heap.size := (by omega)
        go_wp2
        refine bodyPost_ret (v := .tuple #[stV c a0 (a1 + n) a2 a3 a4 a5, .bool true]) (by simp [results, Try.results7, go_sem, hk1, hz1_0, hz1_1, hk2, hz2_0, hz2_1]) rfl ⟨rfl, ?_⟩
        (repeat (first | (with_reducible exact Below.refl _ _) | ((with_reducible refine below_alloc ?_ ?_ _); · (first | omega | (simp; done) | (simp; omega))) | ((with_reducible refine below_setCell ?_ ?_ _); · (first | omega | (simp; done) | (simp; omega))) | (with_reducible refine Below.drew ?_) | (with_reducible refine below_drewN ?_ _) | ((with_reducible refine below_call (by assumption) ?_ ?_); · (first | omega | (simp; done) | (simp; omega)))))
      · rw [show addV c a0 a1 a2 a3 a4 a5 2 n = stV c a0 a1 (a2 + n) a3 a4 a5 from by unfold addV; simp [addAt]]
        have hw : IntKind.i64.wrap (a2 + n) = a2 + n := IntWalk.i64_in _ (by omega)
        clear hs hk h0
        simp only [stV] at *
        go_enter Try.func7, Try.ntmps7
        go_wp2_with fail
        refine (cm _).mono ?_; rintro e w1 ⟨rfl, hb1⟩
        obtain ⟨hk1, hf1, hz1⟩ := bcellN (n := w.heap.size + 2) (by (try simp only [World.size_drew, World.size_alloc, World.size_setCell]); omega) hb1; have hz1_0 : w.heap.size < w1.heap.size := (by omega); have hz1_1 : w.heap.size + 1 < w1.heap.size := (by omega)
        go_wp2_with fail
        refine (cr.out _).mono ?_; rintro e w2 ⟨rfl, hb2⟩
        obtain ⟨hk2, hf2, hz2⟩ := bcellN (n := w.heap.size + 2) (by (try simp only [World.size_drew, World.size_alloc, World.size_setCell]); omega) hb2; have hz2_0 : w.heap.size < w2.heap.size := (by omega); have hz2_1 : w.heap.size + 1 < w2.heap.size := (by omega)
        go_wp2
        refine bodyPost_ret (v := .tuple #[stV c a0 a1 (a2 + n) a3 a4 a5, .bool true]) (by simp [results, Try.results7, go_sem, hk1, hz1_0, hz1_1, hk2, hz2_0, hz2_1]) rfl ⟨rfl, ?_⟩
        (repeat (first | (with_reducible exact Below.refl _ _) | ((with_reducible refine below_alloc ?_ ?_ _); · (first | omega | (simp; done) | (simp; omega))) | ((with_reducible refine below_setCell ?_ ?_ _); · (first | omega | (simp; done) | (simp; omega))) | (with_reducible refine Below.drew ?_) | (with_reducible refine below_drewN ?_ _) | ((with_reducible refine below_call (by assumption) ?_ ?_); · (first | omega | (simp; done) | (simp; omega)))))
      · rw [show addV c a0 a1 a2 a3 a4 a5 3 n = stV c a0 a1 a2 (a3 + n) a4 a5 from by unfold addV; simp [addAt]]
        have hw : IntKind.i64.wrap (a3 + n) = a3 + n := IntWalk.i64_in _ (by omega)
        clear hs hk h0
        simp only [stV] at *
        go_enter Try.func7, Try.ntmps7
        go_wp2_with fail
        refine (cm _).mono ?_; rintro e w1 ⟨rfl, hb1⟩
        obtain ⟨hk1, hf1, hz1⟩ := bcellN (n := w.heap.size + 2) (by (try simp only [World.size_drew, World.size_alloc, World.size_setCell]); omega) hb1; have hz1_0 : w.heap.size < w1.heap.size := (by omega); have hz1_1 : w.heap.size + 1 < w1.heap.size := (by omega)
        go_wp2_with fail
        refine (cr.out _).mono ?_; rintro e w2 ⟨rfl, hb2⟩
        obtain ⟨hk2, hf2, hz2⟩ := bcellN (n := w.heap.size + 2) (by (try simp only [World.size_drew, World.size_alloc, World.size_setCell]); omega) hb2; have hz2_0 : w.heap.size < w2.heap.size := (by omega); have hz2_1 : w.heap.size + 1 < w2.heap.size := (by omega)
        go_wp2
        refine bodyPost_ret (v := .tuple #[stV c a0 a1 a2 (a3 + n) a4 a5, .bool true]) (by simp [results, Try.results7, go_sem, hk1, hz1_0, hz1_1, hk2, hz2_0, hz2_1]) rfl ⟨rfl, ?_⟩
        (repeat (first | (with_reducible exact Below.refl _ _) | ((with_reducible refine below_alloc ?_ ?_ _); · (first | omega | (simp; done) | (simp; omega))) | ((with_reducible refine below_setCell ?_ ?_ _); · (first | omega | (simp; done) | (simp; omega))) | (with_reducible refine Below.drew ?_) | (with_reducible refine below_drewN ?_ _) | ((with_reducible refine below_call (by assumption) ?_ ?_); · (first | omega | (simp; done) | (simp; omega)))))
      · rw [show addV c a0 a1 a2 a3 a4 a5 4 n = stV c a0 a1 a2 a3 (a4 + n) a5 from by unfold addV; simp [addAt]]
        have hw : IntKind.i64.wrap (a4 + n) = a4 + n := IntWalk.i64_in _ (by omega)
        clear hs hk h0
        simp only [stV] at *
        go_enter Try.func7, Try.ntmps7
        go_wp2_with fail
        refine (cm _).mono ?_; rintro e w1 ⟨rfl, hb1⟩
        obtain ⟨hk1, hf1, hz1⟩ := bcellN (n := w.heap.size + 2) (by (try simp only [World.size_drew, World.size_alloc, World.size_setCell]); omega) hb1; have hz1_0 : w.heap.size < w1.heap.size := (by omega); have hz1_1 : w.heap.size + 1 < w1.heap.size := (by omega)
        go_wp2_with fail
        refine (cr.out _).mono ?_; rintro e w2 ⟨rfl, hb2⟩
        obtain ⟨hk2, hf2, hz2⟩ := bcellN (n := w.heap.size + 2) (by (try simp only [World.size_drew, World.size_alloc, World.size_setCell]); omega) hb2; have hz2_0 : w.heap.size < w2.heap.size := (by omega); have hz2_1 : w.heap.size + 1 < w2.heap.size := (by omega)
        go_wp2
        refine bodyPost_ret (v := .tuple #[stV c a0 a1 a2 a3 (a4 + n) a5, .bool true]) (by simp [results, Try.results7, go_sem, hk1, hz1_0, hz1_1, hk2, hz2_0, hz2_1]) rfl ⟨rfl, ?_⟩
        (repeat (first | (with_reducible exact Below.refl _ _) | ((with_reducible refine below_alloc ?_ ?_ _); · (first | omega | (simp; done) | (simp; omega))) | ((with_reducible refine below_setCell ?_ ?_ _); · (first | omega | (simp; done) | (simp; omega))) | (with_reducible refine Below.drew ?_) | (with_reducible refine below_drewN ?_ _) | ((with_reducible refine below_call (by assumption) ?_ ?_); · (first | omega | (simp; done) | (simp; omega)))))
      · rw [show addV c a0 a1 a2 a3 a4 a5 5 n = stV c a0 a1 a2 a3 a4 (a5 + n) from by unfold addV; simp [addAt]]
        have hw : IntKind.i64.wrap (a5 + n) = a5 + n := IntWalk.i64_in _ (by omega)
        clear hs hk h0
        simp only [stV] at *
        go_enter Try.func7, Try.ntmps7
        go_wp2_with fail
        refine (cm _).mono ?_; rintro e w1 ⟨rfl, hb1⟩
        obtain ⟨hk1, hf1, hz1⟩ := bcellN (n := w.heap.size + 2) (by (try simp only [World.size_drew, World.size_alloc, World.size_setCell]); omega) hb1; have hz1_0 : w.heap.size < w1.heap.size := (by omega); have hz1_1 : w.heap.size + 1 < w1.heap.size := (by omega)
        go_wp2_with fail
        refine (cr.out _).mono ?_; rintro e w2 ⟨rfl, hb2⟩
        obtain ⟨hk2, hf2, hz2⟩ := bcellN (n := w.heap.size + 2) (by (try simp only [World.size_drew, World.size_alloc, World.size_setCell]); omega) hb2; have hz2_0 : w.heap.size < w2.heap.size := (by omega); have hz2_1 : w.heap.size + 1 < w2.heap.size := (by omega)
        go_wp2
        refine bodyPost_ret (v := .tuple #[stV c a0 a1 a2 a3 a4 (a5 + n), .bool true]) (by simp [results, Try.results7, go_sem, hk1, hz1_0, hz1_1, hk2, hz2_0, hz2_1]) rfl ⟨rfl, ?_⟩
        (repeat (first | (with_reducible exact Below.refl _ _) | ((with_reducible refine below_alloc ?_ ?_ _); · (first | omega | (simp; done) | (simp; omega))) | ((with_reducible refine below_setCell ?_ ?_ _); · (first | omega | (simp; done) | (simp; omega))) | (with_reducible refine Below.drew ?_) | (with_reducible refine below_drewN ?_ _) | ((with_reducible refine below_call (by assumption) ?_ ?_); · (first | omega | (simp; done) | (simp; omega)))))
    · have hB : takeB c a0 a1 a2 a3 a4 a5 k n = false := by unfold takeB; rw [hm]; simp; omega
      rw [show takeD c a0 a1 a2 a3 a4 a5 k n = 0 from if_neg (by rw [hB]; decide), hB, addV_none]
      have hgt : roomN c a0 a1 a2 a3 a4 a5 k < n := by omega
      clear hm hB hle hs hk h0 hq0 hq1
      simp only [stV] at *
      go_enter Try.func7, Try.ntmps7
      go_wp2_with fail
      refine (cm _).mono ?_; rintro e w1 ⟨rfl, hb1⟩
      obtain ⟨hk1, hf1, hz1⟩ := bcellN (n := w.heap.size + 2) (by (try simp only [World.size_drew, World.size_alloc, World.size_setCell]); omega) hb1; have hz1_0 : w.heap.size < w1.heap.size := (by omega); have hz1_1 : w.heap.size + 1 < w1.heap.size := (by omega)
      go_wp2_with fail
      refine (cr.out _).mono ?_; rintro e w2 ⟨rfl, hb2⟩
      obtain ⟨hk2, hf2, hz2⟩ := bcellN (n := w.heap.size + 2) (by (try simp only [World.size_drew, World.size_alloc, World.size_setCell]); omega) hb2; have hz2_0 : w.heap.size < w2.heap.size := (by omega); have hz2_1 : w.heap.size + 1 < w2.heap.size := (by omega)
      go_wp2
      refine bodyPost_ret (v := .tuple #[stV c a0 a1 a2 a3 a4 a5, .bool false]) (by simp [results, Try.results7, go_sem, hk1, hz1_0, hz1_1, hk2, hz2_0, hz2_1]) rfl ⟨rfl, ?_⟩
      (repeat (first | (with_reducible exact Below.refl _ _) | ((with_reducible refine below_alloc ?_ ?_ _); · (first | omega | (simp; done) | (simp; omega))) | ((with_reducible refine below_setCell ?_ ?_ _); · (first | omega | (simp; done) | (simp; omega))) | (with_reducible refine Below.drew ?_) | (with_reducible refine below_drewN ?_ _) | ((with_reducible refine below_call (by assumption) ?_ ?_); · (first | omega | (simp; done) | (simp; omega)))))
set_option maxRecDepth 100000 in
set_option maxHeartbeats 4000000 in
theorem give_any (c a0 a1 a2 a3 a4 a5 k n : Int) (w : World) :
    Calls Try.prog 9 #[stV c a0 a1 a2 a3 a4 a5, .int .i64 k, .int .i64 n] w fun e w' => e = .returned (.tuple #[addV c a0 a1 a2 a3 a4 a5 k (giveD c a0 a1 a2 a3 a4 a5 k n), .bool (giveB c a0 a1 a2 a3 a4 a5 k n)]) ∧ Below w.heap.size w w' := by
  have cm := fun W => may_any c a0 a1 a2 a3 a4 a5 k n W
  cases hm : mayB c a0 a1 a2 a3 a4 a5 k n with
  | false =>
    have hB : giveB c a0 a1 a2 a3 a4 a5 k n = false := by unfold giveB; rw [hm]; rfl
    rw [show giveD c a0 a1 a2 a3 a4 a5 k n = 0 from if_neg (by rw [hB]; decide), hB, addV_none]
    rw [hm] at cm
    clear hm hB
    simp only [stV] at *
    go_enter Try.func9, Try.ntmps9
    go_wp2_with fail
    refine (cm _).mono ?_; rintro e w1 ⟨rfl, hb1⟩
    obtain ⟨hk1, hf1, hz1⟩ := bcellN (n := w.heap.size + 2) (by (try simp only [World.size_drew, World.size_alloc, World.size_setCell]); omega) hb1; have hz1_0 : w.heap.size < w1.heap.size := (by omega); have hz1_1 : w.heap.size + 1 < w1.heap.size := (by omega)
    go_wp2
    refine bodyPost_ret (v := .tuple #[stV c a0 a1 a2 a3 a4 a5, .bool false]) (by simp [results, Try.results9, go_sem, hk1, hz1_0, hz1_1]) rfl ⟨rfl, ?_⟩
    (repeat (first | (with_reducible exact Below.refl _ _) | ((with_reducible refine below_alloc ?_ ?_ _); · (first | omega | (simp; done) | (simp; omega))) | ((with_reducible refine below_setCell ?_ ?_ _); · (first | omega | (simp; done) | (simp; omega))) | (with_reducible refine Below.drew ?_) | (with_reducible refine below_drewN ?_ _) | ((with_reducible refine below_call (by assumption) ?_ ?_); · (first | omega | (simp; done) | (simp; omega)))))
  | true =>
    obtain ⟨hn, hk, h0⟩ := may_parts hm
    obtain ⟨hs, hc, hq0, hq1⟩ := chk0 h0
    obtain ⟨r0, r1⟩ := roomN_bd c a0 a1 a2 a3 a4 a5 k hk
    have cr := Lib.hid (fun W => room_any c a0 a1 a2 a3 a4 a5 k W hk)
    rw [hm] at cm
    clear cr hq0 hq1 r0 r1
    unfold Smal at hs
    rcases kindB_at hk with rfl | rfl | rfl | rfl | rfl | rfl
    · have hma : manyAt 0 a0 a1 a2 a3 a4 a5 = a0 := rfl
      by_cases hle : n ≤ a0
      · have hB : giveB c a0 a1 a2 a3 a4 a5 0 n = true := by unfold giveB; rw [hm, hma]; simp [hle]
        rw [show giveD c a0 a1 a2 a3 a4 a5 0 n = -n from if_pos hB, hB]
        rw [show addV c a0 a1 a2 a3 a4 a5 0 (-n) = stV c (a0 - n) a1 a2 a3 a4 a5 from by unfold addV; simp [addAt, Int.sub_eq_add_neg]]
        have hw : IntKind.i64.wrap (a0 - n) = a0 - n := IntWalk.i64_in _ (by omega)
        clear hm hB hs hk h0 hma
        simp only [stV] at *
        go_enter Try.func9, Try.ntmps9
        go_wp2_with fail
        refine (cm _).mono ?_; rintro e w1 ⟨rfl, hb1⟩
        obtain ⟨hk1, hf1, hz1⟩ := bcellN (n := w.heap.size + 2) (by (try simp only [World.size_drew, World.size_alloc, World.size_setCell]); omega) hb1; have hz1_0 : w.heap.size < w1.heap.size := (by omega); have hz1_1 : w.heap.size + 1 < w1.heap.size := (by omega)
        go_wp2
        refine bodyPost_ret (v := .tuple #[stV c (a0 - n) a1 a2 a3 a4 a5, .bool true]) (by simp [results, Try.results9, go_sem, hk1, hz1_0, hz1_1]) rfl ⟨rfl, ?_⟩
        (repeat (first | (with_reducible exact Below.refl _ _) | ((with_reducible refine below_alloc ?_ ?_ _); · (first | omega | (simp; done) | (simp; omega))) | ((with_reducible refine below_setCell ?_ ?_ _); · (first | omega | (simp; done) | (simp; omega))) | (with_reducible refine Below.drew ?_) | (with_reducible refine below_drewN ?_ _) | ((with_reducible refine below_call (by assumption) ?_ ?_); · (first | omega | (simp; done) | (simp; omega)))))
      · have hB : giveB c a0 a1 a2 a3 a4 a5 0 n = false := by unfold giveB; rw [hm, hma]; simp; omega
        rw [show giveD c a0 a1 a2 a3 a4 a5 0 n = 0 from if_neg (by rw [hB]; decide), hB, addV_none]
        have hgt : a0 < n := by omega
        clear hm hB hle hs hk h0 hma
        simp only [stV] at *
        go_enter Try.func9, Try.ntmps9
        go_wp2_with fail
        refine (cm _).mono ?_; rintro e w1 ⟨rfl, hb1⟩
        obtain ⟨hk1, hf1, hz1⟩ := bcellN (n := w.heap.size + 2) (by (try simp only [World.size_drew, World.size_alloc, World.size_setCell]); omega) hb1; have hz1_0 : w.heap.size < w1.heap.size := (by omega); have hz1_1 : w.heap.size + 1 < w1.heap.size := (by omega)
        go_wp2
        refine bodyPost_ret (v := .tuple #[stV c a0 a1 a2 a3 a4 a5, .bool false]) (by simp [results, Try.results9, go_sem, hk1, hz1_0, hz1_1]) rfl ⟨rfl, ?_⟩
        (repeat (first | (with_reducible exact Below.refl _ _) | ((with_reducible refine below_alloc ?_ ?_ _); · (first | omega | (simp; done) | (simp; omega))) | ((with_reducible refine below_setCell ?_ ?_ _); · (first | omega | (simp; done) | (simp; omega))) | (with_reducible refine Below.drew ?_) | (with_reducible refine below_drewN ?_ _) | ((with_reducible refine below_call (by assumption) ?_ ?_); · (first | omega | (simp; done) | (simp; omega)))))
    · have hma : manyAt 1 a0 a1 a2 a3 a4 a5 = a1 := rfl
      by_cases hle : n ≤ a1
      · have hB : giveB c a0 a1 a2 a3 a4 a5 1 n = true := by unfold giveB; rw [hm, hma]; simp [hle]
        rw [show giveD c a0 a1 a2 a3 a4 a5 1 n = -n from if_pos hB, hB]
        rw [show addV c a0 a1 a2 a3 a4 a5 1 (-n) = stV c a0 (a1 - n) a2 a3 a4 a5 from by unfold addV; simp [addAt, Int.sub_eq_add_neg]]
        have hw : IntKind.i64.wrap (a1 - n) = a1 - n := IntWalk.i64_in _ (by omega)
        clear hm hB hs hk h0 hma
        simp only [stV] at *
        go_enter Try.func9, Try.ntmps9
        go_wp2_with fail
        refine (cm _).mono ?_; rintro e w1 ⟨rfl, hb1⟩
        obtain ⟨hk1, hf1, hz1⟩ := bcellN (n := w.heap.size + 2) (by (try simp only [World.size_drew, World.size_alloc, World.size_setCell]); omega) hb1; have hz1_0 : w.heap.size < w1.heap.size := (by omega); have hz1_1 : w.heap.size + 1 < w1.heap.size := (by omega)
        go_wp2
        refine bodyPost_ret (v := .tuple #[stV c a0 (a1 - n) a2 a3 a4 a5, .bool true]) (by simp [results, Try.results9, go_sem, hk1, hz1_0, hz1_1]) rfl ⟨rfl, ?_⟩
        (repeat (first | (with_reducible exact Below.refl _ _) | ((with_reducible refine below_alloc ?_ ?_ _); · (first | omega | (simp; done) | (simp; omega))) | ((with_reducible refine below_setCell ?_ ?_ _); · (first | omega | (simp; done) | (simp; omega))) | (with_reducible refine Below.drew ?_) | (with_reducible refine below_drewN ?_ _) | ((with_reducible refine below_call (by assumption) ?_ ?_); · (first | omega | (simp; done) | (simp; omega)))))
      · have hB : giveB c a0 a1 a2 a3 a4 a5 1 n = false := by unfold giveB; rw [hm, hma]; simp; omega
        rw [show giveD c a0 a1 a2 a3 a4 a5 1 n = 0 from if_neg (by rw [hB]; decide), hB, addV_none]
        have hgt : a1 < n := by omega
        clear hm hB hle hs hk h0 hma
        simp only [stV] at *
        go_enter Try.func9, Try.ntmps9
        go_wp2_with fail
        refine (cm _).mono ?_; rintro e w1 ⟨rfl, hb1⟩
        obtain ⟨hk1, hf1, hz1⟩ := bcellN (n := w.heap.size + 2) (by (try simp only [World.size_drew, World.size_alloc, World.size_setCell]); omega) hb1; have hz1_0 : w.heap.size < w1.heap.size := (by omega); have hz1_1 : w.heap.size + 1 < w1.heap.size := (by omega)
        go_wp2
        refine bodyPost_ret (v := .tuple #[stV c a0 a1 a2 a3 a4 a5, .bool false]) (by simp [results, Try.results9, go_sem, hk1, hz1_0, hz1_1]) rfl ⟨rfl, ?_⟩
        (repeat (first | (with_reducible exact Below.refl _ _) | ((with_reducible refine below_alloc ?_ ?_ _); · (first | omega | (simp; done) | (simp; omega))) | ((with_reducible refine below_setCell ?_ ?_ _); · (first | omega | (simp; done) | (simp; omega))) | (with_reducible refine Below.drew ?_) | (with_reducible refine below_drewN ?_ _) | ((with_reducible refine below_call (by assumption) ?_ ?_); · (first | omega | (simp; done) | (simp; omega)))))
    · have hma : manyAt 2 a0 a1 a2 a3 a4 a5 = a2 := rfl
      by_cases hle : n ≤ a2
      · have hB : giveB c a0 a1 a2 a3 a4 a5 2 n = true := by unfold giveB; rw [hm, hma]; simp [hle]
        rw [show giveD c a0 a1 a2 a3 a4 a5 2 n = -n from if_pos hB, hB]
        rw [show addV c a0 a1 a2 a3 a4 a5 2 (-n) = stV c a0 a1 (a2 - n) a3 a4 a5 from by unfold addV; simp [addAt, Int.sub_eq_add_neg]]
        have hw : IntKind.i64.wrap (a2 - n) = a2 - n := IntWalk.i64_in _ (by omega)
        clear hm hB hs hk h0 hma
        simp only [stV] at *
        go_enter Try.func9, Try.ntmps9
        go_wp2_with fail
        refine (cm _).mono ?_; rintro e w1 ⟨rfl, hb1⟩
        obtain ⟨hk1, hf1, hz1⟩ := bcellN (n := w.heap.size + 2) (by (try simp only [World.size_drew, World.size_alloc, World.size_setCell]); omega) hb1; have hz1_0 : w.heap.size < w1.heap.size := (by omega); have hz1_1 : w.heap.size + 1 < w1.heap.size := (by omega)
        go_wp2
        refine bodyPost_ret (v := .tuple #[stV c a0 a1 (a2 - n) a3 a4 a5, .bool true]) (by simp [results, Try.results9, go_sem, hk1, hz1_0, hz1_1]) rfl ⟨rfl, ?_⟩
        (repeat (first | (with_reducible exact Below.refl _ _) | ((with_reducible refine below_alloc ?_ ?_ _); · (first | omega | (simp; done) | (simp; omega))) | ((with_reducible refine below_setCell ?_ ?_ _); · (first | omega | (simp; done) | (simp; omega))) | (with_reducible refine Below.drew ?_) | (with_reducible refine below_drewN ?_ _) | ((with_reducible refine below_call (by assumption) ?_ ?_); · (first | omega | (simp; done) | (simp; omega)))))
      · have hB : giveB c a0 a1 a2 a3 a4 a5 2 n = false := by unfold giveB; rw [hm, hma]; simp; omega
        rw [show giveD c a0 a1 a2 a3 a4 a5 2 n = 0 from if_neg (by rw [hB]; decide), hB, addV_none]
        have hgt : a2 < n := by omega
        clear hm hB hle hs hk h0 hma
        simp only [stV] at *
        go_enter Try.func9, Try.ntmps9
        go_wp2_with fail
        refine (cm _).mono ?_; rintro e w1 ⟨rfl, hb1⟩
        obtain ⟨hk1, hf1, hz1⟩ := bcellN (n := w.heap.size + 2) (by (try simp only [World.size_drew, World.size_alloc, World.size_setCell]); omega) hb1; have hz1_0 : w.heap.size < w1.heap.size := (by omega); have hz1_1 : w.heap.size + 1 < w1.heap.size := (by omega)
        go_wp2
        refine bodyPost_ret (v := .tuple #[stV c a0 a1 a2 a3 a4 a5, .bool false]) (by simp [results, Try.results9, go_sem, hk1, hz1_0, hz1_1]) rfl ⟨rfl, ?_⟩
        (repeat (first | (with_reducible exact Below.refl _ _) | ((with_reducible refine below_alloc ?_ ?_ _); · (first | omega | (simp; done) | (simp; omega))) | ((with_reducible refine below_setCell ?_ ?_ _); · (first | omega | (simp; done) | (simp; omega))) | (with_reducible refine Below.drew ?_) | (with_reducible refine below_drewN ?_ _) | ((with_reducible refine below_call (by assumption) ?_ ?_); · (first | omega | (simp; done) | (simp; omega)))))
    · have hma : manyAt 3 a0 a1 a2 a3 a4 a5 = a3 := rfl
      by_cases hle : n ≤ a3
      · have hB : giveB c a0 a1 a2 a3 a4 a5 3 n = true := by unfold giveB; rw [hm, hma]; simp [hle]
        rw [show giveD c a0 a1 a2 a3 a4 a5 3 n = -n from if_pos hB, hB]
        rw [show addV c a0 a1 a2 a3 a4 a5 3 (-n) = stV c a0 a1 a2 (a3 - n) a4 a5 from by unfold addV; simp [addAt, Int.sub_eq_add_neg]]
        have hw : IntKind.i64.wrap (a3 - n) = a3 - n := IntWalk.i64_in _ (by omega)
        clear hm hB hs hk h0 hma
        simp only [stV] at *
        go_enter Try.func9, Try.ntmps9
        go_wp2_with fail
        refine (cm _).mono ?_; rintro e w1 ⟨rfl, hb1⟩
        obtain ⟨hk1, hf1, hz1⟩ := bcellN (n := w.heap.size + 2) (by (try simp only [World.size_drew, World.size_alloc, World.size_setCell]); omega) hb1; have hz1_0 : w.heap.size < w1.heap.size := (by omega); have hz1_1 : w.heap.size + 1 < w1.heap.size := (by omega)
        go_wp2
        refine bodyPost_ret (v := .tuple #[stV c a0 a1 a2 (a3 - n) a4 a5, .bool true]) (by simp [results, Try.results9, go_sem, hk1, hz1_0, hz1_1]) rfl ⟨rfl, ?_⟩
        (repeat (first | (with_reducible exact Below.refl _ _) | ((with_reducible refine below_alloc ?_ ?_ _); · (first | omega | (simp; done) | (simp; omega))) | ((with_reducible refine below_setCell ?_ ?_ _); · (first | omega | (simp; done) | (simp; omega))) | (with_reducible refine Below.drew ?_) | (with_reducible refine below_drewN ?_ _) | ((with_reducible refine below_call (by assumption) ?_ ?_); · (first | omega | (simp; done) | (simp; omega)))))
      · have hB : giveB c a0 a1 a2 a3 a4 a5 3 n = false := by unfold giveB; rw [hm, hma]; simp; omega
        rw [show giveD c a0 a1 a2 a3 a4 a5 3 n = 0 from if_neg (by rw [hB]; decide), hB, addV_none]
        have hgt : a3 < n := by omega
        clear hm hB hle hs hk h0 hma
        simp only [stV] at *
        go_enter Try.func9, Try.ntmps9
        go_wp2_with fail
        refine (cm _).mono ?_; rintro e w1 ⟨rfl, hb1⟩
        obtain ⟨hk1, hf1, hz1⟩ := bcellN (n := w.heap.size + 2) (by (try simp only [World.size_drew, World.size_alloc, World.size_setCell]); omega) hb1; have hz1_0 : w.heap.size < w1.heap.size := (by omega); have hz1_1 : w.heap.size + 1 < w1.heap.size := (by omega)
        go_wp2
        refine bodyPost_ret (v := .tuple #[stV c a0 a1 a2 a3 a4 a5, .bool false]) (by simp [results, Try.results9, go_sem, hk1, hz1_0, hz1_1]) rfl ⟨rfl, ?_⟩
        (repeat (first | (with_reducible exact Below.refl _ _) | ((with_reducible refine below_alloc ?_ ?_ _); · (first | omega | (simp; done) | (simp; omega))) | ((with_reducible refine below_setCell ?_ ?_ _); · (first | omega | (simp; done) | (simp; omega))) | (with_reducible refine Below.drew ?_) | (with_reducible refine below_drewN ?_ _) | ((with_reducible refine below_call (by assumption) ?_ ?_); · (first | omega | (simp; done) | (simp; omega)))))
    · have hma : manyAt 4 a0 a1 a2 a3 a4 a5 = a4 := rfl
      by_cases hle : n ≤ a4
      · have hB : giveB c a0 a1 a2 a3 a4 a5 4 n = true := by unfold giveB; rw [hm, hma]; simp [hle]
        rw [show giveD c a0 a1 a2 a3 a4 a5 4 n = -n from if_pos hB, hB]
        rw [show addV c a0 a1 a2 a3 a4 a5 4 (-n) = stV c a0 a1 a2 a3 (a4 - n) a5 from by unfold addV; simp [addAt, Int.sub_eq_add_neg]]
        have hw : IntKind.i64.wrap (a4 - n) = a4 - n := IntWalk.i64_in _ (by omega)
        clear hm hB hs hk h0 hma
        simp only [stV] at *
        go_enter Try.func9, Try.ntmps9
        go_wp2_with fail
        refine (cm _).mono ?_; rintro e w1 ⟨rfl, hb1⟩
        obtain ⟨hk1, hf1, hz1⟩ := bcellN (n := w.heap.size + 2) (by (try simp only [World.size_drew, World.size_alloc, World.size_setCell]); omega) hb1; have hz1_0 : w.heap.size < w1.heap.size := (by omega); have hz1_1 : w.heap.size + 1 < w1.heap.size := (by omega)
        go_wp2
        refine bodyPost_ret (v := .tuple #[stV c a0 a1 a2 a3 (a4 - n) a5, .bool true]) (by simp [results, Try.results9, go_sem, hk1, hz1_0, hz1_1]) rfl ⟨rfl, ?_⟩
        (repeat (first | (with_reducible exact Below.refl _ _) | ((with_reducible refine below_alloc ?_ ?_ _); · (first | omega | (simp; done) | (simp; omega))) | ((with_reducible refine below_setCell ?_ ?_ _); · (first | omega | (simp; done) | (simp; omega))) | (with_reducible refine Below.drew ?_) | (with_reducible refine below_drewN ?_ _) | ((with_reducible refine below_call (by assumption) ?_ ?_); · (first | omega | (simp; done) | (simp; omega)))))
      · have hB : giveB c a0 a1 a2 a3 a4 a5 4 n = false := by unfold giveB; rw [hm, hma]; simp; omega
        rw [show giveD c a0 a1 a2 a3 a4 a5 4 n = 0 from if_neg (by rw [hB]; decide), hB, addV_none]
        have hgt : a4 < n := by omega
        clear hm hB hle hs hk h0 hma
        simp only [stV] at *
        go_enter Try.func9, Try.ntmps9
        go_wp2_with fail
        refine (cm _).mono ?_; rintro e w1 ⟨rfl, hb1⟩
        obtain ⟨hk1, hf1, hz1⟩ := bcellN (n := w.heap.size + 2) (by (try simp only [World.size_drew, World.size_alloc, World.size_setCell]); omega) hb1; have hz1_0 : w.heap.size < w1.heap.size := (by omega); have hz1_1 : w.heap.size + 1 < w1.heap.size := (by omega)
        go_wp2
        refine bodyPost_ret (v := .tuple #[stV c a0 a1 a2 a3 a4 a5, .bool false]) (by simp [results, Try.results9, go_sem, hk1, hz1_0, hz1_1]) rfl ⟨rfl, ?_⟩
        (repeat (first | (with_reducible exact Below.refl _ _) | ((with_reducible refine below_alloc ?_ ?_ _); · (first | omega | (simp; done) | (simp; omega))) | ((with_reducible refine below_setCell ?_ ?_ _); · (first | omega | (simp; done) | (simp; omega))) | (with_reducible refine Below.drew ?_) | (with_reducible refine below_drewN ?_ _) | ((with_reducible refine below_call (by assumption) ?_ ?_); · (first | omega | (simp; done) | (simp; omega)))))
    · have hma : manyAt 5 a0 a1 a2 a3 a4 a5 = a5 := rfl
      by_cases hle : n ≤ a5
      · have hB : giveB c a0 a1 a2 a3 a4 a5 5 n = true := by unfold giveB; rw [hm, hma]; simp [hle]
        rw [show giveD c a0 a1 a2 a3 a4 a5 5 n = -n from if_pos hB, hB]
        rw [show addV c a0 a1 a2 a3 a4 a5 5 (-n) = stV c a0 a1 a2 a3 a4 (a5 - n) from by unfold addV; simp [addAt, Int.sub_eq_add_neg]]
        have hw : IntKind.i64.wrap (a5 - n) = a5 - n := IntWalk.i64_in _ (by omega)
        clear hm hB hs hk h0 hma
        simp only [stV] at *
        go_enter Try.func9, Try.ntmps9
        go_wp2_with fail
        refine (cm _).mono ?_; rintro e w1 ⟨rfl, hb1⟩
        obtain ⟨hk1, hf1, hz1⟩ := bcellN (n := w.heap.size + 2) (by (try simp only [World.size_drew, World.size_alloc, World.size_setCell]); omega) hb1; have hz1_0 : w.heap.size < w1.heap.size := (by omega); have hz1_1 : w.heap.size + 1 < w1.heap.size := (by omega)
        go_wp2
        refine bodyPost_ret (v := .tuple #[stV c a0 a1 a2 a3 a4 (a5 - n), .bool true]) (by simp [results, Try.results9, go_sem, hk1, hz1_0, hz1_1]) rfl ⟨rfl, ?_⟩
        (repeat (first | (with_reducible exact Below.refl _ _) | ((with_reducible refine below_alloc ?_ ?_ _); · (first | omega | (simp; done) | (simp; omega))) | ((with_reducible refine below_setCell ?_ ?_ _); · (first | omega | (simp; done) | (simp; omega))) | (with_reducible refine Below.drew ?_) | (with_reducible refine below_drewN ?_ _) | ((with_reducible refine below_call (by assumption) ?_ ?_); · (first | omega | (simp; done) | (simp; omega)))))
      · have hB : giveB c a0 a1 a2 a3 a4 a5 5 n = false := by unfold giveB; rw [hm, hma]; simp; omega
        rw [show giveD c a0 a1 a2 a3 a4 a5 5 n = 0 from if_neg (by rw [hB]; decide), hB, addV_none]
        have hgt : a5 < n := by omega
        clear hm hB hle hs hk h0 hma
        simp only [stV] at *
        go_enter Try.func9, Try.ntmps9
        go_wp2_with fail
        refine (cm _).mono ?_; rintro e w1 ⟨rfl, hb1⟩
        obtain ⟨hk1, hf1, hz1⟩ := bcellN (n := w.heap.size + 2) (by (try simp only [World.size_drew, World.size_alloc, World.size_setCell]); omega) hb1; have hz1_0 : w.heap.size < w1.heap.size := (by omega); have hz1_1 : w.heap.size + 1 < w1.heap.size := (by omega)
        go_wp2
        refine bodyPost_ret (v := .tuple #[stV c a0 a1 a2 a3 a4 a5, .bool false]) (by simp [results, Try.results9, go_sem, hk1, hz1_0, hz1_1]) rfl ⟨rfl, ?_⟩
        (repeat (first | (with_reducible exact Below.refl _ _) | ((with_reducible refine below_alloc ?_ ?_ _); · (first | omega | (simp; done) | (simp; omega))) | ((with_reducible refine below_setCell ?_ ?_ _); · (first | omega | (simp; done) | (simp; omega))) | (with_reducible refine Below.drew ?_) | (with_reducible refine below_drewN ?_ _) | ((with_reducible refine below_call (by assumption) ?_ ?_); · (first | omega | (simp; done) | (simp; omega)))))
end Go.Proofs.Ytkohdfmhigejoaa
