/- Layer 8: things that are charged, and charged no more: the document's. -/
import Derived.Test.YtkohdfmhigejoaaG8G
namespace Go.Proofs.Ytkohdfmhigejoaa
open Go.RowKit
set_option linter.unusedVariables false
set_option linter.unusedSimpArgs false

set_option maxRecDepth 100000 in
set_option maxHeartbeats 4000000 in
theorem dtake_any (c a0 a1 a2 a3 a4 a5 k n : Int) (w : World) :
    Calls Try.prog 8 #[stV c a0 a1 a2 a3 a4 a5, .int .i64 k, .int .i64 n] w fun e w' => e = .returned (.tuple #[addV c a0 a1 a2 a3 a4 a5 k (takeD c a0 a1 a2 a3 a4 a5 k n), .bool (takeB c a0 a1 a2 a3 a4 a5 k n)]) ∧ Below w.heap.size w w' := by
  have ck := fun W => checkD_any c a0 a1 a2 a3 a4 a5 W
  have ci : ∀ W, Calls Try.prog 30 #[.int .i64 k, .int .i64 0, .int .i64 5] W fun e w' => e = .returned (.bool (kindB k)) ∧ w' = W := fun W => in_any k 0 5 W
  have cf := Lib.hid (fun W => fitsD_any c a0 a1 a2 a3 a4 a5 k n W)
  by_cases h0 : chkN c a0 a1 a2 a3 a4 a5 = 0
  · rw [h0] at ck
    by_cases hn : 0 ≤ n
    · cases hk : kindB k with
      | true =>
        have hm := may_of hn hk h0
        obtain ⟨hs, hc, hq0, hq1⟩ := chk0 h0
        obtain ⟨r0, r1⟩ := roomN_bd c a0 a1 a2 a3 a4 a5 k hk
        rw [hk] at ci
        clear hq0 hq1 hc
        by_cases hle : n ≤ roomN c a0 a1 a2 a3 a4 a5 k
        · have hB : takeB c a0 a1 a2 a3 a4 a5 k n = true := by unfold takeB; rw [hm]; simp [hle]
          have hF : fitN c a0 a1 a2 a3 a4 a5 k n = n := by unfold fitN; rw [if_pos hm]; omega
          rw [show takeD c a0 a1 a2 a3 a4 a5 k n = n from if_pos hB, hB]
          rw [hF] at cf
          unfold Smal at hs
          have hn2 : n ≤ 4096 := by omega
          clear r0 r1 hle hF
          rcases kindB_at hk with rfl | rfl | rfl | rfl | rfl | rfl
          · rw [show addV c a0 a1 a2 a3 a4 a5 0 n = stV c (a0 + n) a1 a2 a3 a4 a5 from by unfold addV; simp [addAt]]
            have hw : IntKind.i64.wrap (a0 + n) = a0 + n := IntWalk.i64_in _ (by omega)
            clear hm hB hs hk h0
            simp only [stV] at *
            go_enter Try.func8, Try.ntmps8
            go_wp2_with fail
            refine (ck _).mono ?_; rintro e w1 ⟨rfl, hb1⟩
            obtain ⟨hk1, hf1, hz1⟩ := bcellN (n := w.heap.size + 2) (by (try simp only [World.size_drew, World.size_alloc, World.size_setCell]); omega) hb1; have hz1_0 : w.heap.size < w1.heap.size := (by omega); have hz1_1 : w.heap.size + 1 < w1.heap.size := (by omega)
            go_wp2_with fail
            refine (ci _).mono ?_; rintro e wz ⟨rfl, rfl⟩
            go_wp2_with fail
            refine (cf.out _).mono ?_; rintro e w2 ⟨rfl, hb2⟩
            obtain ⟨hk2, hf2, hz2⟩ := bcellN (n := w.heap.size + 2) (by (try simp only [World.size_drew, World.size_alloc, World.size_setCell]); omega) hb2; have hz2_0 : w.heap.size < w2.heap.size := (by omega); have hz2_1 : w.heap.size + 1 < w2.heap.size := (by omega)
            go_wp2
            refine bodyPost_ret (v := .tuple #[stV c (a0 + n) a1 a2 a3 a4 a5, .bool true]) (by simp [results, Try.results8, go_sem, hk1, hz1_0, hz1_1, hk2, hz2_0, hz2_1]) rfl ⟨rfl, ?_⟩
            (repeat (first | (with_reducible exact Below.refl _ _) | ((with_reducible refine below_alloc ?_ ?_ _); · (first | omega | (simp; done) | (simp; omega))) | ((with_reducible refine below_setCell ?_ ?_ _); · (first | omega | (simp; done) | (simp; omega))) | (with_reducible refine Below.drew ?_) | (with_reducible refine below_drewN ?_ _) | ((with_reducible refine below_call (by assumption) ?_ ?_); · (first | omega | (simp; done) | (simp; omega)))))
          · rw [show addV c a0 a1 a2 a3 a4 a5 1 n = stV c a0 (a1 + n) a2 a3 a4 a5 from by unfold addV; simp [addAt]]
            have hw : IntKind.i64.wrap (a1 + n) = a1 + n := IntWalk.i64_in _ (by omega)
            clear hm hB hs hk h0
            simp only [stV] at *
            go_enter Try.func8, Try.ntmps8
            go_wp2_with fail
            refine (ck _).mono ?_; rintro e w1 ⟨rfl, hb1⟩
            obtain ⟨hk1, hf1, hz1⟩ := bcellN (n := w.heap.size + 2) (by (try simp only [World.size_drew, World.size_alloc, World.size_setCell]); omega) hb1; have hz1_0 : w.heap.size < w1.heap.size := (by omega); have hz1_1 : w.heap.size + 1 < w1.heap.size := (by omega)
            go_wp2_with fail
            refine (ci _).mono ?_; rintro e wz ⟨rfl, rfl⟩
            go_wp2_with fail
            refine (cf.out _).mono ?_; rintro e w2 ⟨rfl, hb2⟩
            obtain ⟨hk2, hf2, hz2⟩ := bcellN (n := w.heap.size + 2) (by (try simp only [World.size_drew, World.size_alloc, World.size_setCell]); omega) hb2; have hz2_0 : w.heap.size < w2.heap.size := (by omega); have hz2_1 : w.heap.size + 1 < w2.heap.size := (by omega)
            go_wp2
            refine bodyPost_ret (v := .tuple #[stV c a0 (a1 + n) a2 a3 a4 a5, .bool true]) (by simp [results, Try.results8, go_sem, hk1, hz1_0, hz1_1, hk2, hz2_0, hz2_1]) rfl ⟨rfl, ?_⟩
            (repeat (first | (with_reducible exact Below.refl _ _) | ((with_reducible refine below_alloc ?_ ?_ _); · (first | omega | (simp; done) | (simp; omega))) | ((with_reducible refine below_setCell ?_ ?_ _); · (first | omega | (simp; done) | (simp; omega))) | (with_reducible refine Below.drew ?_) | (with_reducible refine below_drewN ?_ _) | ((with_reducible refine below_call (by assumption) ?_ ?_); · (first | omega | (simp; done) | (simp; omega)))))
          · rw [show addV c a0 a1 a2 a3 a4 a5 2 n = stV c a0 a1 (a2 + n) a3 a4 a5 from by unfold addV; simp [addAt]]
            have hw : IntKind.i64.wrap (a2 + n) = a2 + n := IntWalk.i64_in _ (by omega)
            clear hm hB hs hk h0
            simp only [stV] at *
            go_enter Try.func8, Try.ntmps8
            go_wp2_with fail
            refine (ck _).mono ?_; rintro e w1 ⟨rfl, hb1⟩
            obtain ⟨hk1, hf1, hz1⟩ := bcellN (n := w.heap.size + 2) (by (try simp only [World.size_drew, World.size_alloc, World.size_setCell]); omega) hb1; have hz1_0 : w.heap.size < w1.heap.size := (by omega); have hz1_1 : w.heap.size + 1 < w1.heap.size := (by omega)
            go_wp2_with fail
            refine (ci _).mono ?_; rintro e wz ⟨rfl, rfl⟩
            go_wp2_with fail
            refine (cf.out _).mono ?_; rintro e w2 ⟨rfl, hb2⟩
            obtain ⟨hk2, hf2, hz2⟩ := bcellN (n := w.heap.size + 2) (by (try simp only [World.size_drew, World.size_alloc, World.size_setCell]); omega) hb2; have hz2_0 : w.heap.size < w2.heap.size := (by omega); have hz2_1 : w.heap.size + 1 < w2.heap.size := (by omega)
            go_wp2
            refine bodyPost_ret (v := .tuple #[stV c a0 a1 (a2 + n) a3 a4 a5, .bool true]) (by simp [results, Try.results8, go_sem, hk1, hz1_0, hz1_1, hk2, hz2_0, hz2_1]) rfl ⟨rfl, ?_⟩
            (repeat (first | (with_reducible exact Below.refl _ _) | ((with_reducible refine below_alloc ?_ ?_ _); · (first | omega | (simp; done) | (simp; omega))) | ((with_reducible refine below_setCell ?_ ?_ _); · (first | omega | (simp; done) | (simp; omega))) | (with_reducible refine Below.drew ?_) | (with_reducible refine below_drewN ?_ _) | ((with_reducible refine below_call (by assumption) ?_ ?_); · (first | omega | (simp; done) | (simp; omega)))))
          · rw [show addV c a0 a1 a2 a3 a4 a5 3 n = stV c a0 a1 a2 (a3 + n) a4 a5 from by unfold addV; simp [addAt]]
            have hw : IntKind.i64.wrap (a3 + n) = a3 + n := IntWalk.i64_in _ (by omega)
            clear hm hB hs hk h0
            simp only [stV] at *
            go_enter Try.func8, Try.ntmps8
            go_wp2_with fail
            refine (ck _).mono ?_; rintro e w1 ⟨rfl, hb1⟩
            obtain ⟨hk1, hf1, hz1⟩ := bcellN (n := w.heap.size + 2) (by (try simp only [World.size_drew, World.size_alloc, World.size_setCell]); omega) hb1; have hz1_0 : w.heap.size < w1.heap.size := (by omega); have hz1_1 : w.heap.size + 1 < w1.heap.size := (by omega)
            go_wp2_with fail
            refine (ci _).mono ?_; rintro e wz ⟨rfl, rfl⟩
            go_wp2_with fail
            refine (cf.out _).mono ?_; rintro e w2 ⟨rfl, hb2⟩
            obtain ⟨hk2, hf2, hz2⟩ := bcellN (n := w.heap.size + 2) (by (try simp only [World.size_drew, World.size_alloc, World.size_setCell]); omega) hb2; have hz2_0 : w.heap.size < w2.heap.size := (by omega); have hz2_1 : w.heap.size + 1 < w2.heap.size := (by omega)
            go_wp2
            refine bodyPost_ret (v := .tuple #[stV c a0 a1 a2 (a3 + n) a4 a5, .bool true]) (by simp [results, Try.results8, go_sem, hk1, hz1_0, hz1_1, hk2, hz2_0, hz2_1]) rfl ⟨rfl, ?_⟩
            (repeat (first | (with_reducible exact Below.refl _ _) | ((with_reducible refine below_alloc ?_ ?_ _); · (first | omega | (simp; done) | (simp; omega))) | ((with_reducible refine below_setCell ?_ ?_ _); · (first | omega | (simp; done) | (simp; omega))) | (with_reducible refine Below.drew ?_) | (with_reducible refine below_drewN ?_ _) | ((with_reducible refine below_call (by assumption) ?_ ?_); · (first | omega | (simp; done) | (simp; omega)))))
          · rw [show addV c a0 a1 a2 a3 a4 a5 4 n = stV c a0 a1 a2 a3 (a4 + n) a5 from by unfold addV; simp [addAt]]
            have hw : IntKind.i64.wrap (a4 + n) = a4 + n := IntWalk.i64_in _ (by omega)
            clear hm hB hs hk h0
            simp only [stV] at *
            go_enter Try.func8, Try.ntmps8
            go_wp2_with fail
            refine (ck _).mono ?_; rintro e w1 ⟨rfl, hb1⟩
            obtain ⟨hk1, hf1, hz1⟩ := bcellN (n := w.heap.size + 2) (by (try simp only [World.size_drew, World.size_alloc, World.size_setCell]); omega) hb1; have hz1_0 : w.heap.size < w1.heap.size := (by omega); have hz1_1 : w.heap.size + 1 < w1.heap.size := (by omega)
            go_wp2_with fail
            refine (ci _).mono ?_; rintro e wz ⟨rfl, rfl⟩
            go_wp2_with fail
            refine (cf.out _).mono ?_; rintro e w2 ⟨rfl, hb2⟩
            obtain ⟨hk2, hf2, hz2⟩ := bcellN (n := w.heap.size + 2) (by (try simp only [World.size_drew, World.size_alloc, World.size_setCell]); omega) hb2; have hz2_0 : w.heap.size < w2.heap.size := (by omega); have hz2_1 : w.heap.size + 1 < w2.heap.size := (by omega)
            go_wp2
            refine bodyPost_ret (v := .tuple #[stV c a0 a1 a2 a3 (a4 + n) a5, .bool true]) (by simp [results, Try.results8, go_sem, hk1, hz1_0, hz1_1, hk2, hz2_0, hz2_1]) rfl ⟨rfl, ?_⟩
            (repeat (first | (with_reducible exact Below.refl _ _) | ((with_reducible refine below_alloc ?_ ?_ _); · (first | omega | (simp; done) | (simp; omega))) | ((with_reducible refine below_setCell ?_ ?_ _); · (first | omega | (simp; done) | (simp; omega))) | (with_reducible refine Below.drew ?_) | (with_reducible refine below_drewN ?_ _) | ((with_reducible refine below_call (by assumption) ?_ ?_); · (first | omega | (simp; done) | (simp; omega)))))
          · rw [show addV c a0 a1 a2 a3 a4 a5 5 n = stV c a0 a1 a2 a3 a4 (a5 + n) from by unfold addV; simp [addAt]]
            have hw : IntKind.i64.wrap (a5 + n) = a5 + n := IntWalk.i64_in _ (by omega)
            clear hm hB hs hk h0
            simp only [stV] at *
            go_enter Try.func8, Try.ntmps8
            go_wp2_with fail
            refine (ck _).mono ?_; rintro e w1 ⟨rfl, hb1⟩
            obtain ⟨hk1, hf1, hz1⟩ := bcellN (n := w.heap.size + 2) (by (try simp only [World.size_drew, World.size_alloc, World.size_setCell]); omega) hb1; have hz1_0 : w.heap.size < w1.heap.size := (by omega); have hz1_1 : w.heap.size + 1 < w1.heap.size := (by omega)
            go_wp2_with fail
            refine (ci _).mono ?_; rintro e wz ⟨rfl, rfl⟩
            go_wp2_with fail
            refine (cf.out _).mono ?_; rintro e w2 ⟨rfl, hb2⟩
            obtain ⟨hk2, hf2, hz2⟩ := bcellN (n := w.heap.size + 2) (by (try simp only [World.size_drew, World.size_alloc, World.size_setCell]); omega) hb2; have hz2_0 : w.heap.size < w2.heap.size := (by omega); have hz2_1 : w.heap.size + 1 < w2.heap.size := (by omega)
            go_wp2
            refine bodyPost_ret (v := .tuple #[stV c a0 a1 a2 a3 a4 (a5 + n), .bool true]) (by simp [results, Try.results8, go_sem, hk1, hz1_0, hz1_1, hk2, hz2_0, hz2_1]) rfl ⟨rfl, ?_⟩
            (repeat (first | (with_reducible exact Below.refl _ _) | ((with_reducible refine below_alloc ?_ ?_ _); · (first | omega | (simp; done) | (simp; omega))) | ((with_reducible refine below_setCell ?_ ?_ _); · (first | omega | (simp; done) | (simp; omega))) | (with_reducible refine Below.drew ?_) | (with_reducible refine below_drewN ?_ _) | ((with_reducible refine below_call (by assumption) ?_ ?_); · (first | omega | (simp; done) | (simp; omega)))))
        · have hB : takeB c a0 a1 a2 a3 a4 a5 k n = false := by unfold takeB; rw [hm]; simp; omega
          have hF : (fitN c a0 a1 a2 a3 a4 a5 k n != n) = true := by
            have h : ¬ fitN c a0 a1 a2 a3 a4 a5 k n = n := by unfold fitN; rw [if_pos hm]; omega
            simpa using h
          rw [show takeD c a0 a1 a2 a3 a4 a5 k n = 0 from if_neg (by rw [hB]; decide), hB, addV_none]
          clear r0 r1 hle
          clear hm hB hs hk h0
          simp only [stV] at *
          go_enter Try.func8, Try.ntmps8
          go_wp2_with fail
          refine (ck _).mono ?_; rintro e w1 ⟨rfl, hb1⟩
          obtain ⟨hk1, hf1, hz1⟩ := bcellN (n := w.heap.size + 2) (by (try simp only [World.size_drew, World.size_alloc, World.size_setCell]); omega) hb1; have hz1_0 : w.heap.size < w1.heap.size := (by omega); have hz1_1 : w.heap.size + 1 < w1.heap.size := (by omega)
          go_wp2_with fail
          refine (ci _).mono ?_; rintro e wz ⟨rfl, rfl⟩
          go_wp2_with fail
          refine (cf.out _).mono ?_; rintro e w2 ⟨rfl, hb2⟩
          obtain ⟨hk2, hf2, hz2⟩ := bcellN (n := w.heap.size + 2) (by (try simp only [World.size_drew, World.size_alloc, World.size_setCell]); omega) hb2; have hz2_0 : w.heap.size < w2.heap.size := (by omega); have hz2_1 : w.heap.size + 1 < w2.heap.size := (by omega)
          go_wp2
          refine bodyPost_ret (v := .tuple #[stV c a0 a1 a2 a3 a4 a5, .bool false]) (by simp [results, Try.results8, go_sem, hk1, hz1_0, hz1_1, hk2, hz2_0, hz2_1]) rfl ⟨rfl, ?_⟩
          (repeat (first | (with_reducible exact Below.refl _ _) | ((with_reducible refine below_alloc ?_ ?_ _); · (first | omega | (simp; done) | (simp; omega))) | ((with_reducible refine below_setCell ?_ ?_ _); · (first | omega | (simp; done) | (simp; omega))) | (with_reducible refine Below.drew ?_) | (with_reducible refine below_drewN ?_ _) | ((with_reducible refine below_call (by assumption) ?_ ?_); · (first | omega | (simp; done) | (simp; omega)))))
      | false =>
        have hm : mayB c a0 a1 a2 a3 a4 a5 k n = false := by unfold mayB; rw [hk]; simp
        rw [hk] at ci
        clear hk h0
        have hB : takeB c a0 a1 a2 a3 a4 a5 k n = false := by unfold takeB; rw [hm]; rfl
        rw [show takeD c a0 a1 a2 a3 a4 a5 k n = 0 from if_neg (by rw [hB]; decide), hB, addV_none]
        clear hm hB
        simp only [stV] at *
        go_enter Try.func8, Try.ntmps8
        go_wp2_with fail
        refine (ck _).mono ?_; rintro e w1 ⟨rfl, hb1⟩
        obtain ⟨hk1, hf1, hz1⟩ := bcellN (n := w.heap.size + 2) (by (try simp only [World.size_drew, World.size_alloc, World.size_setCell]); omega) hb1; have hz1_0 : w.heap.size < w1.heap.size := (by omega); have hz1_1 : w.heap.size + 1 < w1.heap.size := (by omega)
        go_wp2_with fail
        refine (ci _).mono ?_; rintro e wz ⟨rfl, rfl⟩
        go_wp2
        refine bodyPost_ret (v := .tuple #[stV c a0 a1 a2 a3 a4 a5, .bool false]) (by simp [results, Try.results8, go_sem, hk1, hz1_0, hz1_1]) rfl ⟨rfl, ?_⟩
        (repeat (first | (with_reducible exact Below.refl _ _) | ((with_reducible refine below_alloc ?_ ?_ _); · (first | omega | (simp; done) | (simp; omega))) | ((with_reducible refine below_setCell ?_ ?_ _); · (first | omega | (simp; done) | (simp; omega))) | (with_reducible refine Below.drew ?_) | (with_reducible refine below_drewN ?_ _) | ((with_reducible refine below_call (by assumption) ?_ ?_); · (first | omega | (simp; done) | (simp; omega)))))
    · have hm : mayB c a0 a1 a2 a3 a4 a5 k n = false := by unfold mayB; simp [hn]
      have hn' : n < 0 := by omega
      clear hn h0
      have hB : takeB c a0 a1 a2 a3 a4 a5 k n = false := by unfold takeB; rw [hm]; rfl
      rw [show takeD c a0 a1 a2 a3 a4 a5 k n = 0 from if_neg (by rw [hB]; decide), hB, addV_none]
      clear hm hB
      simp only [stV] at *
      go_enter Try.func8, Try.ntmps8
      go_wp2_with fail
      refine (ck _).mono ?_; rintro e w1 ⟨rfl, hb1⟩
      obtain ⟨hk1, hf1, hz1⟩ := bcellN (n := w.heap.size + 2) (by (try simp only [World.size_drew, World.size_alloc, World.size_setCell]); omega) hb1; have hz1_0 : w.heap.size < w1.heap.size := (by omega); have hz1_1 : w.heap.size + 1 < w1.heap.size := (by omega)
      go_wp2
      refine bodyPost_ret (v := .tuple #[stV c a0 a1 a2 a3 a4 a5, .bool false]) (by simp [results, Try.results8, go_sem, hk1, hz1_0, hz1_1]) rfl ⟨rfl, ?_⟩
      (repeat (first | (with_reducible exact Below.refl _ _) | ((with_reducible refine below_alloc ?_ ?_ _); · (first | omega | (simp; done) | (simp; omega))) | ((with_reducible refine below_setCell ?_ ?_ _); · (first | omega | (simp; done) | (simp; omega))) | (with_reducible refine Below.drew ?_) | (with_reducible refine below_drewN ?_ _) | ((with_reducible refine below_call (by assumption) ?_ ?_); · (first | omega | (simp; done) | (simp; omega)))))
  · have hm : mayB c a0 a1 a2 a3 a4 a5 k n = false := by unfold mayB; simp [h0]
    have hB : takeB c a0 a1 a2 a3 a4 a5 k n = false := by unfold takeB; rw [hm]; rfl
    rw [show takeD c a0 a1 a2 a3 a4 a5 k n = 0 from if_neg (by rw [hB]; decide), hB, addV_none]
    clear hm hB
    simp only [stV] at *
    go_enter Try.func8, Try.ntmps8
    go_wp2_with fail
    refine (ck _).mono ?_; rintro e w1 ⟨rfl, hb1⟩
    obtain ⟨hk1, hf1, hz1⟩ := bcellN (n := w.heap.size + 2) (by (try simp only [World.size_drew, World.size_alloc, World.size_setCell]); omega) hb1; have hz1_0 : w.heap.size < w1.heap.size := (by omega); have hz1_1 : w.heap.size + 1 < w1.heap.size := (by omega)
    go_wp2
    refine bodyPost_ret (v := .tuple #[stV c a0 a1 a2 a3 a4 a5, .bool false]) (by simp [results, Try.results8, go_sem, hk1, hz1_0, hz1_1]) rfl ⟨rfl, ?_⟩
    (repeat (first | (with_reducible exact Below.refl _ _) | ((with_reducible refine below_alloc ?_ ?_ _); · (first | omega | (simp; done) | (simp; omega))) | ((with_reducible refine below_setCell ?_ ?_ _); · (first | omega | (simp; done) | (simp; omega))) | (with_reducible refine Below.drew ?_) | (with_reducible refine below_drewN ?_ _) | ((with_reducible refine below_call (by assumption) ?_ ?_); · (first | omega | (simp; done) | (simp; omega)))))
set_option maxRecDepth 100000 in
set_option maxHeartbeats 4000000 in
theorem dgive_any (c a0 a1 a2 a3 a4 a5 k n : Int) (w : World) :
    Calls Try.prog 10 #[stV c a0 a1 a2 a3 a4 a5, .int .i64 k, .int .i64 n] w fun e w' => e = .returned (.tuple #[addV c a0 a1 a2 a3 a4 a5 k (giveD c a0 a1 a2 a3 a4 a5 k n), .bool (giveB c a0 a1 a2 a3 a4 a5 k n)]) ∧ Below w.heap.size w w' := by
  have ck := fun W => checkD_any c a0 a1 a2 a3 a4 a5 W
  have ci : ∀ W, Calls Try.prog 30 #[.int .i64 k, .int .i64 0, .int .i64 5] W fun e w' => e = .returned (.bool (kindB k)) ∧ w' = W := fun W => in_any k 0 5 W
  have cf := Lib.hid (fun W => fitsD_any c a0 a1 a2 a3 a4 a5 k n W)
  by_cases h0 : chkN c a0 a1 a2 a3 a4 a5 = 0
  · rw [h0] at ck
    by_cases hn : 0 ≤ n
    · cases hk : kindB k with
      | true =>
        have hm := may_of hn hk h0
        obtain ⟨hs, hc, hq0, hq1⟩ := chk0 h0
        obtain ⟨r0, r1⟩ := roomN_bd c a0 a1 a2 a3 a4 a5 k hk
        rw [hk] at ci
        clear hq0 hq1 hc
        clear r0 r1 cf
        unfold Smal at hs
        rcases kindB_at hk with rfl | rfl | rfl | rfl | rfl | rfl
        · have hma : manyAt 0 a0 a1 a2 a3 a4 a5 = a0 := rfl
          by_cases hle : n ≤ a0
          · have hB : giveB c a0 a1 a2 a3 a4 a5 0 n = true := by unfold giveB; rw [hm, hma]; simp [hle]
            rw [show giveD c a0 a1 a2 a3 a4 a5 0 n = -n from if_pos hB, hB]
            rw [show addV c a0 a1 a2 a3 a4 a5 0 (-n) = stV c (a0 - n) a1 a2 a3 a4 a5 from by unfold addV; simp [addAt, Int.sub_eq_add_neg]]
            have hw : IntKind.i64.wrap (a0 - n) = a0 - n := IntWalk.i64_in _ (by omega)
            clear hm hB hs hk h0 hma
            simp only [stV] at *
            go_enter Try.func10, Try.ntmps10
            go_wp2_with fail
            refine (ck _).mono ?_; rintro e w1 ⟨rfl, hb1⟩
            obtain ⟨hk1, hf1, hz1⟩ := bcellN (n := w.heap.size + 2) (by (try simp only [World.size_drew, World.size_alloc, World.size_setCell]); omega) hb1; have hz1_0 : w.heap.size < w1.heap.size := (by omega); have hz1_1 : w.heap.size + 1 < w1.heap.size := (by omega)
            go_wp2_with fail
            refine (ci _).mono ?_; rintro e wz ⟨rfl, rfl⟩
            go_wp2
            refine bodyPost_ret (v := .tuple #[stV c (a0 - n) a1 a2 a3 a4 a5, .bool true]) (by simp [results, Try.results10, go_sem, hk1, hz1_0, hz1_1]) rfl ⟨rfl, ?_⟩
            (repeat (first | (with_reducible exact Below.refl _ _) | ((with_reducible refine below_alloc ?_ ?_ _); · (first | omega | (simp; done) | (simp; omega))) | ((with_reducible refine below_setCell ?_ ?_ _); · (first | omega | (simp; done) | (simp; omega))) | (with_reducible refine Below.drew ?_) | (with_reducible refine below_drewN ?_ _) | ((with_reducible refine below_call (by assumption) ?_ ?_); · (first | omega | (simp; done) | (simp; omega)))))
          · have hB : giveB c a0 a1 a2 a3 a4 a5 0 n = false := by unfold giveB; rw [hm, hma]; simp; omega
            rw [show giveD c a0 a1 a2 a3 a4 a5 0 n = 0 from if_neg (by rw [hB]; decide), hB, addV_none]
            have hgt : a0 < n := by omega
            clear hle
            clear hm hB hs hk h0 hma
            simp only [stV] at *
            go_enter Try.func10, Try.ntmps10
            go_wp2_with fail
            refine (ck _).mono ?_; rintro e w1 ⟨rfl, hb1⟩
            obtain ⟨hk1, hf1, hz1⟩ := bcellN (n := w.heap.size + 2) (by (try simp only [World.size_drew, World.size_alloc, World.size_setCell]); omega) hb1; have hz1_0 : w.heap.size < w1.heap.size := (by omega); have hz1_1 : w.heap.size + 1 < w1.heap.size := (by omega)
            go_wp2_with fail
            refine (ci _).mono ?_; rintro e wz ⟨rfl, rfl⟩
            go_wp2
            refine bodyPost_ret (v := .tuple #[stV c a0 a1 a2 a3 a4 a5, .bool false]) (by simp [results, Try.results10, go_sem, hk1, hz1_0, hz1_1]) rfl ⟨rfl, ?_⟩
            (repeat (first | (with_reducible exact Below.refl _ _) | ((with_reducible refine below_alloc ?_ ?_ _); · (first | omega | (simp; done) | (simp; omega))) | ((with_reducible refine below_setCell ?_ ?_ _); · (first | omega | (simp; done) | (simp; omega))) | (with_reducible refine Below.drew ?_) | (with_reducible refine below_drewN ?_ _) | ((with_reducible refine below_call (by assumption) ?_ ?_); · (first | omega | (simp; done) | (simp; omega)))))
        · have hma : manyAt 1 a0 a1 a2 a3 a4 a5 = a1 := rfl
          by_cases hle : n ≤ a1
          · have hB : giveB c a0 a1 a2 a3 a4 a5 1 n = true := by unfold giveB; rw [hm, hma]; simp [hle]
            rw [show giveD c a0 a1 a2 a3 a4 a5 1 n = -n from if_pos hB, hB]
            rw [show addV c a0 a1 a2 a3 a4 a5 1 (-n) = stV c a0 (a1 - n) a2 a3 a4 a5 from by unfold addV; simp [addAt, Int.sub_eq_add_neg]]
            have hw : IntKind.i64.wrap (a1 - n) = a1 - n := IntWalk.i64_in _ (by omega)
            clear hm hB hs hk h0 hma
            simp only [stV] at *
            go_enter Try.func10, Try.ntmps10
            go_wp2_with fail
            refine (ck _).mono ?_; rintro e w1 ⟨rfl, hb1⟩
            obtain ⟨hk1, hf1, hz1⟩ := bcellN (n := w.heap.size + 2) (by (try simp only [World.size_drew, World.size_alloc, World.size_setCell]); omega) hb1; have hz1_0 : w.heap.size < w1.heap.size := (by omega); have hz1_1 : w.heap.size + 1 < w1.heap.size := (by omega)
            go_wp2_with fail
            refine (ci _).mono ?_; rintro e wz ⟨rfl, rfl⟩
            go_wp2
            refine bodyPost_ret (v := .tuple #[stV c a0 (a1 - n) a2 a3 a4 a5, .bool true]) (by simp [results, Try.results10, go_sem, hk1, hz1_0, hz1_1]) rfl ⟨rfl, ?_⟩
            (repeat (first | (with_reducible exact Below.refl _ _) | ((with_reducible refine below_alloc ?_ ?_ _); · (first | omega | (simp; done) | (simp; omega))) | ((with_reducible refine below_setCell ?_ ?_ _); · (first | omega | (simp; done) | (simp; omega))) | (with_reducible refine Below.drew ?_) | (with_reducible refine below_drewN ?_ _) | ((with_reducible refine below_call (by assumption) ?_ ?_); · (first | omega | (simp; done) | (simp; omega)))))
          · have hB : giveB c a0 a1 a2 a3 a4 a5 1 n = false := by unfold giveB; rw [hm, hma]; simp; omega
            rw [show giveD c a0 a1 a2 a3 a4 a5 1 n = 0 from if_neg (by rw [hB]; decide), hB, addV_none]
            have hgt : a1 < n := by omega
            clear hle
            clear hm hB hs hk h0 hma
            simp only [stV] at *
            go_enter Try.func10, Try.ntmps10
            go_wp2_with fail
            refine (ck _).mono ?_; rintro e w1 ⟨rfl, hb1⟩
            obtain ⟨hk1, hf1, hz1⟩ := bcellN (n := w.heap.size + 2) (by (try simp only [World.size_drew, World.size_alloc, World.size_setCell]); omega) hb1; have hz1_0 : w.heap.size < w1.heap.size := (by omega); have hz1_1 : w.heap.size + 1 < w1.heap.size := (by omega)
            go_wp2_with fail
            refine (ci _).mono ?_; rintro e wz ⟨rfl, rfl⟩
            go_wp2
            refine bodyPost_ret (v := .tuple #[stV c a0 a1 a2 a3 a4 a5, .bool false]) (by simp [results, Try.results10, go_sem, hk1, hz1_0, hz1_1]) rfl ⟨rfl, ?_⟩
            (repeat (first | (with_reducible exact Below.refl _ _) | ((with_reducible refine below_alloc ?_ ?_ _); · (first | omega | (simp; done) | (simp; omega))) | ((with_reducible refine below_setCell ?_ ?_ _); · (first | omega | (simp; done) | (simp; omega))) | (with_reducible refine Below.drew ?_) | (with_reducible refine below_drewN ?_ _) | ((with_reducible refine below_call (by assumption) ?_ ?_); · (first | omega | (simp; done) | (simp; omega)))))
        · have hma : manyAt 2 a0 a1 a2 a3 a4 a5 = a2 := rfl
          by_cases hle : n ≤ a2
          · have hB : giveB c a0 a1 a2 a3 a4 a5 2 n = true := by unfold giveB; rw [hm, hma]; simp [hle]
            rw [show giveD c a0 a1 a2 a3 a4 a5 2 n = -n from if_pos hB, hB]
            rw [show addV c a0 a1 a2 a3 a4 a5 2 (-n) = stV c a0 a1 (a2 - n) a3 a4 a5 from by unfold addV; simp [addAt, Int.sub_eq_add_neg]]
            have hw : IntKind.i64.wrap (a2 - n) = a2 - n := IntWalk.i64_in _ (by omega)
            clear hm hB hs hk h0 hma
            simp only [stV] at *
            go_enter Try.func10, Try.ntmps10
            go_wp2_with fail
            refine (ck _).mono ?_; rintro e w1 ⟨rfl, hb1⟩
            obtain ⟨hk1, hf1, hz1⟩ := bcellN (n := w.heap.size + 2) (by (try simp only [World.size_drew, World.size_alloc, World.size_setCell]); omega) hb1; have hz1_0 : w.heap.size < w1.heap.size := (by omega); have hz1_1 : w.heap.size + 1 < w1.heap.size := (by omega)
            go_wp2_with fail
            refine (ci _).mono ?_; rintro e wz ⟨rfl, rfl⟩
            go_wp2
            refine bodyPost_ret (v := .tuple #[stV c a0 a1 (a2 - n) a3 a4 a5, .bool true]) (by simp [results, Try.results10, go_sem, hk1, hz1_0, hz1_1]) rfl ⟨rfl, ?_⟩
            (repeat (first | (with_reducible exact Below.refl _ _) | ((with_reducible refine below_alloc ?_ ?_ _); · (first | omega | (simp; done) | (simp; omega))) | ((with_reducible refine below_setCell ?_ ?_ _); · (first | omega | (simp; done) | (simp; omega))) | (with_reducible refine Below.drew ?_) | (with_reducible refine below_drewN ?_ _) | ((with_reducible refine below_call (by assumption) ?_ ?_); · (first | omega | (simp; done) | (simp; omega)))))
          · have hB : giveB c a0 a1 a2 a3 a4 a5 2 n = false := by unfold giveB; rw [hm, hma]; simp; omega
            rw [show giveD c a0 a1 a2 a3 a4 a5 2 n = 0 from if_neg (by rw [hB]; decide), hB, addV_none]
            have hgt : a2 < n := by omega
            clear hle
            clear hm hB hs hk h0 hma
            simp only [stV] at *
            go_enter Try.func10, Try.ntmps10
            go_wp2_with fail
            refine (ck _).mono ?_; rintro e w1 ⟨rfl, hb1⟩
            obtain ⟨hk1, hf1, hz1⟩ := bcellN (n := w.heap.size + 2) (by (try simp only [World.size_drew, World.size_alloc, World.size_setCell]); omega) hb1; have hz1_0 : w.heap.size < w1.heap.size := (by omega); have hz1_1 : w.heap.size + 1 < w1.heap.size := (by omega)
            go_wp2_with fail
            refine (ci _).mono ?_; rintro e wz ⟨rfl, rfl⟩
            go_wp2
            refine bodyPost_ret (v := .tuple #[stV c a0 a1 a2 a3 a4 a5, .bool false]) (by simp [results, Try.results10, go_sem, hk1, hz1_0, hz1_1]) rfl ⟨rfl, ?_⟩
            (repeat (first | (with_reducible exact Below.refl _ _) | ((with_reducible refine below_alloc ?_ ?_ _); · (first | omega | (simp; done) | (simp; omega))) | ((with_reducible refine below_setCell ?_ ?_ _); · (first | omega | (simp; done) | (simp; omega))) | (with_reducible refine Below.drew ?_) | (with_reducible refine below_drewN ?_ _) | ((with_reducible refine below_call (by assumption) ?_ ?_); · (first | omega | (simp; done) | (simp; omega)))))
        · have hma : manyAt 3 a0 a1 a2 a3 a4 a5 = a3 := rfl
          by_cases hle : n ≤ a3
          · have hB : giveB c a0 a1 a2 a3 a4 a5 3 n = true := by unfold giveB; rw [hm, hma]; simp [hle]
            rw [show giveD c a0 a1 a2 a3 a4 a5 3 n = -n from if_pos hB, hB]
            rw [show addV c a0 a1 a2 a3 a4 a5 3 (-n) = stV c a0 a1 a2 (a3 - n) a4 a5 from by unfold addV; simp [addAt, Int.sub_eq_add_neg]]
            have hw : IntKind.i64.wrap (a3 - n) = a3 - n := IntWalk.i64_in _ (by omega)
            clear hm hB hs hk h0 hma
            simp only [stV] at *
            go_enter Try.func10, Try.ntmps10
            go_wp2_with fail
            refine (ck _).mono ?_; rintro e w1 ⟨rfl, hb1⟩
            obtain ⟨hk1, hf1, hz1⟩ := bcellN (n := w.heap.size + 2) (by (try simp only [World.size_drew, World.size_alloc, World.size_setCell]); omega) hb1; have hz1_0 : w.heap.size < w1.heap.size := (by omega); have hz1_1 : w.heap.size + 1 < w1.heap.size := (by omega)
            go_wp2_with fail
            refine (ci _).mono ?_; rintro e wz ⟨rfl, rfl⟩
            go_wp2
            refine bodyPost_ret (v := .tuple #[stV c a0 a1 a2 (a3 - n) a4 a5, .bool true]) (by simp [results, Try.results10, go_sem, hk1, hz1_0, hz1_1]) rfl ⟨rfl, ?_⟩
            (repeat (first | (with_reducible exact Below.refl _ _) | ((with_reducible refine below_alloc ?_ ?_ _); · (first | omega | (simp; done) | (simp; omega))) | ((with_reducible refine below_setCell ?_ ?_ _); · (first | omega | (simp; done) | (simp; omega))) | (with_reducible refine Below.drew ?_) | (with_reducible refine below_drewN ?_ _) | ((with_reducible refine below_call (by assumption) ?_ ?_); · (first | omega | (simp; done) | (simp; omega)))))
          · have hB : giveB c a0 a1 a2 a3 a4 a5 3 n = false := by unfold giveB; rw [hm, hma]; simp; omega
            rw [show giveD c a0 a1 a2 a3 a4 a5 3 n = 0 from if_neg (by rw [hB]; decide), hB, addV_none]
            have hgt : a3 < n := by omega
            clear hle
            clear hm hB hs hk h0 hma
            simp only [stV] at *
            go_enter Try.func10, Try.ntmps10
            go_wp2_with fail
            refine (ck _).mono ?_; rintro e w1 ⟨rfl, hb1⟩
            obtain ⟨hk1, hf1, hz1⟩ := bcellN (n := w.heap.size + 2) (by (try simp only [World.size_drew, World.size_alloc, World.size_setCell]); omega) hb1; have hz1_0 : w.heap.size < w1.heap.size := (by omega); have hz1_1 : w.heap.size + 1 < w1.heap.size := (by omega)
            go_wp2_with fail
            refine (ci _).mono ?_; rintro e wz ⟨rfl, rfl⟩
            go_wp2
            refine bodyPost_ret (v := .tuple #[stV c a0 a1 a2 a3 a4 a5, .bool false]) (by simp [results, Try.results10, go_sem, hk1, hz1_0, hz1_1]) rfl ⟨rfl, ?_⟩
            (repeat (first | (with_reducible exact Below.refl _ _) | ((with_reducible refine below_alloc ?_ ?_ _); · (first | omega | (simp; done) | (simp; omega))) | ((with_reducible refine below_setCell ?_ ?_ _); · (first | omega | (simp; done) | (simp; omega))) | (with_reducible refine Below.drew ?_) | (with_reducible refine below_drewN ?_ _) | ((with_reducible refine below_call (by assumption) ?_ ?_); · (first | omega | (simp; done) | (simp; omega)))))
        · have hma : manyAt 4 a0 a1 a2 a3 a4 a5 = a4 := rfl
          by_cases hle : n ≤ a4
          · have hB : giveB c a0 a1 a2 a3 a4 a5 4 n = true := by unfold giveB; rw [hm, hma]; simp [hle]
            rw [show giveD c a0 a1 a2 a3 a4 a5 4 n = -n from if_pos hB, hB]
            rw [show addV c a0 a1 a2 a3 a4 a5 4 (-n) = stV c a0 a1 a2 a3 (a4 - n) a5 from by unfold addV; simp [addAt, Int.sub_eq_add_neg]]
            have hw : IntKind.i64.wrap (a4 - n) = a4 - n := IntWalk.i64_in _ (by omega)
            clear hm hB hs hk h0 hma
            simp only [stV] at *
            go_enter Try.func10, Try.ntmps10
            go_wp2_with fail
            refine (ck _).mono ?_; rintro e w1 ⟨rfl, hb1⟩
            obtain ⟨hk1, hf1, hz1⟩ := bcellN (n := w.heap.size + 2) (by (try simp only [World.size_drew, World.size_alloc, World.size_setCell]); omega) hb1; have hz1_0 : w.heap.size < w1.heap.size := (by omega); have hz1_1 : w.heap.size + 1 < w1.heap.size := (by omega)
            go_wp2_with fail
            refine (ci _).mono ?_; rintro e wz ⟨rfl, rfl⟩
            go_wp2
            refine bodyPost_ret (v := .tuple #[stV c a0 a1 a2 a3 (a4 - n) a5, .bool true]) (by simp [results, Try.results10, go_sem, hk1, hz1_0, hz1_1]) rfl ⟨rfl, ?_⟩
            (repeat (first | (with_reducible exact Below.refl _ _) | ((with_reducible refine below_alloc ?_ ?_ _); · (first | omega | (simp; done) | (simp; omega))) | ((with_reducible refine below_setCell ?_ ?_ _); · (first | omega | (simp; done) | (simp; omega))) | (with_reducible refine Below.drew ?_) | (with_reducible refine below_drewN ?_ _) | ((with_reducible refine below_call (by assumption) ?_ ?_); · (first | omega | (simp; done) | (simp; omega)))))
          · have hB : giveB c a0 a1 a2 a3 a4 a5 4 n = false := by unfold giveB; rw [hm, hma]; simp; omega
            rw [show giveD c a0 a1 a2 a3 a4 a5 4 n = 0 from if_neg (by rw [hB]; decide), hB, addV_none]
            have hgt : a4 < n := by omega
            clear hle
            clear hm hB hs hk h0 hma
            simp only [stV] at *
            go_enter Try.func10, Try.ntmps10
            go_wp2_with fail
            refine (ck _).mono ?_; rintro e w1 ⟨rfl, hb1⟩
            obtain ⟨hk1, hf1, hz1⟩ := bcellN (n := w.heap.size + 2) (by (try simp only [World.size_drew, World.size_alloc, World.size_setCell]); omega) hb1; have hz1_0 : w.heap.size < w1.heap.size := (by omega); have hz1_1 : w.heap.size + 1 < w1.heap.size := (by omega)
            go_wp2_with fail
            refine (ci _).mono ?_; rintro e wz ⟨rfl, rfl⟩
            go_wp2
            refine bodyPost_ret (v := .tuple #[stV c a0 a1 a2 a3 a4 a5, .bool false]) (by simp [results, Try.results10, go_sem, hk1, hz1_0, hz1_1]) rfl ⟨rfl, ?_⟩
            (repeat (first | (with_reducible exact Below.refl _ _) | ((with_reducible refine below_alloc ?_ ?_ _); · (first | omega | (simp; done) | (simp; omega))) | ((with_reducible refine below_setCell ?_ ?_ _); · (first | omega | (simp; done) | (simp; omega))) | (with_reducible refine Below.drew ?_) | (with_reducible refine below_drewN ?_ _) | ((with_reducible refine below_call (by assumption) ?_ ?_); · (first | omega | (simp; done) | (simp; omega)))))
        · have hma : manyAt 5 a0 a1 a2 a3 a4 a5 = a5 := rfl
          by_cases hle : n ≤ a5
          · have hB : giveB c a0 a1 a2 a3 a4 a5 5 n = true := by unfold giveB; rw [hm, hma]; simp [hle]
            rw [show giveD c a0 a1 a2 a3 a4 a5 5 n = -n from if_pos hB, hB]
            rw [show addV c a0 a1 a2 a3 a4 a5 5 (-n) = stV c a0 a1 a2 a3 a4 (a5 - n) from by unfold addV; simp [addAt, Int.sub_eq_add_neg]]
            have hw : IntKind.i64.wrap (a5 - n) = a5 - n := IntWalk.i64_in _ (by omega)
            clear hm hB hs hk h0 hma
            simp only [stV] at *
            go_enter Try.func10, Try.ntmps10
            go_wp2_with fail
            refine (ck _).mono ?_; rintro e w1 ⟨rfl, hb1⟩
            obtain ⟨hk1, hf1, hz1⟩ := bcellN (n := w.heap.size + 2) (by (try simp only [World.size_drew, World.size_alloc, World.size_setCell]); omega) hb1; have hz1_0 : w.heap.size < w1.heap.size := (by omega); have hz1_1 : w.heap.size + 1 < w1.heap.size := (by omega)
            go_wp2_with fail
            refine (ci _).mono ?_; rintro e wz ⟨rfl, rfl⟩
            go_wp2
            refine bodyPost_ret (v := .tuple #[stV c a0 a1 a2 a3 a4 (a5 - n), .bool true]) (by simp [results, Try.results10, go_sem, hk1, hz1_0, hz1_1]) rfl ⟨rfl, ?_⟩
            (repeat (first | (with_reducible exact Below.refl _ _) | ((with_reducible refine below_alloc ?_ ?_ _); · (first | omega | (simp; done) | (simp; omega))) | ((with_reducible refine below_setCell ?_ ?_ _); · (first | omega | (simp; done) | (simp; omega))) | (with_reducible refine Below.drew ?_) | (with_reducible refine below_drewN ?_ _) | ((with_reducible refine below_call (by assumption) ?_ ?_); · (first | omega | (simp; done) | (simp; omega)))))
          · have hB : giveB c a0 a1 a2 a3 a4 a5 5 n = false := by unfold giveB; rw [hm, hma]; simp; omega
            rw [show giveD c a0 a1 a2 a3 a4 a5 5 n = 0 from if_neg (by rw [hB]; decide), hB, addV_none]
            have hgt : a5 < n := by omega
            clear hle
            clear hm hB hs hk h0 hma
            simp only [stV] at *
            go_enter Try.func10, Try.ntmps10
            go_wp2_with fail
            refine (ck _).mono ?_; rintro e w1 ⟨rfl, hb1⟩
            obtain ⟨hk1, hf1, hz1⟩ := bcellN (n := w.heap.size + 2) (by (try simp only [World.size_drew, World.size_alloc, World.size_setCell]); omega) hb1; have hz1_0 : w.heap.size < w1.heap.size := (by omega); have hz1_1 : w.heap.size + 1 < w1.heap.size := (by omega)
            go_wp2_with fail
            refine (ci _).mono ?_; rintro e wz ⟨rfl, rfl⟩
            go_wp2
            refine bodyPost_ret (v := .tuple #[stV c a0 a1 a2 a3 a4 a5, .bool false]) (by simp [results, Try.results10, go_sem, hk1, hz1_0, hz1_1]) rfl ⟨rfl, ?_⟩
            (repeat (first | (with_reducible exact Below.refl _ _) | ((with_reducible refine below_alloc ?_ ?_ _); · (first | omega | (simp; done) | (simp; omega))) | ((with_reducible refine below_setCell ?_ ?_ _); · (first | omega | (simp; done) | (simp; omega))) | (with_reducible refine Below.drew ?_) | (with_reducible refine below_drewN ?_ _) | ((with_reducible refine below_call (by assumption) ?_ ?_); · (first | omega | (simp; done) | (simp; omega)))))
      | false =>
        have hm : mayB c a0 a1 a2 a3 a4 a5 k n = false := by unfold mayB; rw [hk]; simp
        rw [hk] at ci
        clear hk h0
        have hB : giveB c a0 a1 a2 a3 a4 a5 k n = false := by unfold giveB; rw [hm]; rfl
        rw [show giveD c a0 a1 a2 a3 a4 a5 k n = 0 from if_neg (by rw [hB]; decide), hB, addV_none]
        clear hm hB
        simp only [stV] at *
        go_enter Try.func10, Try.ntmps10
        go_wp2_with fail
        refine (ck _).mono ?_; rintro e w1 ⟨rfl, hb1⟩
        obtain ⟨hk1, hf1, hz1⟩ := bcellN (n := w.heap.size + 2) (by (try simp only [World.size_drew, World.size_alloc, World.size_setCell]); omega) hb1; have hz1_0 : w.heap.size < w1.heap.size := (by omega); have hz1_1 : w.heap.size + 1 < w1.heap.size := (by omega)
        go_wp2_with fail
        refine (ci _).mono ?_; rintro e wz ⟨rfl, rfl⟩
        go_wp2
        refine bodyPost_ret (v := .tuple #[stV c a0 a1 a2 a3 a4 a5, .bool false]) (by simp [results, Try.results10, go_sem, hk1, hz1_0, hz1_1]) rfl ⟨rfl, ?_⟩
        (repeat (first | (with_reducible exact Below.refl _ _) | ((with_reducible refine below_alloc ?_ ?_ _); · (first | omega | (simp; done) | (simp; omega))) | ((with_reducible refine below_setCell ?_ ?_ _); · (first | omega | (simp; done) | (simp; omega))) | (with_reducible refine Below.drew ?_) | (with_reducible refine below_drewN ?_ _) | ((with_reducible refine below_call (by assumption) ?_ ?_); · (first | omega | (simp; done) | (simp; omega)))))
    · have hm : mayB c a0 a1 a2 a3 a4 a5 k n = false := by unfold mayB; simp [hn]
      have hn' : n < 0 := by omega
      clear hn h0
      have hB : giveB c a0 a1 a2 a3 a4 a5 k n = false := by unfold giveB; rw [hm]; rfl
      rw [show giveD c a0 a1 a2 a3 a4 a5 k n = 0 from if_neg (by rw [hB]; decide), hB, addV_none]
      clear hm hB
      simp only [stV] at *
      go_enter Try.func10, Try.ntmps10
      go_wp2_with fail
      refine (ck _).mono ?_; rintro e w1 ⟨rfl, hb1⟩
      obtain ⟨hk1, hf1, hz1⟩ := bcellN (n := w.heap.size + 2) (by (try simp only [World.size_drew, World.size_alloc, World.size_setCell]); omega) hb1; have hz1_0 : w.heap.size < w1.heap.size := (by omega); have hz1_1 : w.heap.size + 1 < w1.heap.size := (by omega)
      go_wp2
      refine bodyPost_ret (v := .tuple #[stV c a0 a1 a2 a3 a4 a5, .bool false]) (by simp [results, Try.results10, go_sem, hk1, hz1_0, hz1_1]) rfl ⟨rfl, ?_⟩
      (repeat (first | (with_reducible exact Below.refl _ _) | ((with_reducible refine below_alloc ?_ ?_ _); · (first | omega | (simp; done) | (simp; omega))) | ((with_reducible refine below_setCell ?_ ?_ _); · (first | omega | (simp; done) | (simp; omega))) | (with_reducible refine Below.drew ?_) | (with_reducible refine below_drewN ?_ _) | ((with_reducible refine below_call (by assumption) ?_ ?_); · (first | omega | (simp; done) | (simp; omega)))))
  · have hm : mayB c a0 a1 a2 a3 a4 a5 k n = false := by unfold mayB; simp [h0]
    have hB : giveB c a0 a1 a2 a3 a4 a5 k n = false := by unfold giveB; rw [hm]; rfl
    rw [show giveD c a0 a1 a2 a3 a4 a5 k n = 0 from if_neg (by rw [hB]; decide), hB, addV_none]
    clear hm hB
    simp only [stV] at *
    go_enter Try.func10, Try.ntmps10
    go_wp2_with fail
    refine (ck _).mono ?_; rintro e w1 ⟨rfl, hb1⟩
    obtain ⟨hk1, hf1, hz1⟩ := bcellN (n := w.heap.size + 2) (by (try simp only [World.size_drew, World.size_alloc, World.size_setCell]); omega) hb1; have hz1_0 : w.heap.size < w1.heap.size := (by omega); have hz1_1 : w.heap.size + 1 < w1.heap.size := (by omega)
    go_wp2
    refine bodyPost_ret (v := .tuple #[stV c a0 a1 a2 a3 a4 a5, .bool false]) (by simp [results, Try.results10, go_sem, hk1, hz1_0, hz1_1]) rfl ⟨rfl, ?_⟩
    (repeat (first | (with_reducible exact Below.refl _ _) | ((with_reducible refine below_alloc ?_ ?_ _); · (first | omega | (simp; done) | (simp; omega))) | ((with_reducible refine below_setCell ?_ ?_ _); · (first | omega | (simp; done) | (simp; omega))) | (with_reducible refine Below.drew ?_) | (with_reducible refine below_drewN ?_ _) | ((with_reducible refine below_call (by assumption) ?_ ?_); · (first | omega | (simp; done) | (simp; omega)))))
end Go.Proofs.Ytkohdfmhigejoaa
