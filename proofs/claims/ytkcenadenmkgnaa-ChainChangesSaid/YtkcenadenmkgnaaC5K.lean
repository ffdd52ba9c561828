/- Contracts of layer 4, the program's: New. -/
import Derived.Test.YtkcenadenmkgnaaC5J
import Derived.Test.YtkcenadenmkgnaaC5H
namespace Go.Proofs.Ytkcenadenmkgnaa
open Go.RowKit
set_option linter.unusedVariables false
set_option linter.unusedSimpArgs false

def newE (n k : Int) : Int := if inB n 1 64 && inB k 1 8 then 0 else 8
def newS (n k : Nat) : LSt := (List.replicate n (-1, -1, -1), List.replicate k (-1), List.replicate k (-1))
def newR (n k : Int) : LSt := if newE n k = 0 then newS n.toNat k.toNat else ([], [], [])
theorem rep_newS (n k : Nat) : Rep (newS n k) (List.replicate k []) := by
  refine ⟨by simp [newS, hdI], by simp [newS, lastN], fun i hi => ?_, fun a ha hno => ?_⟩
  · rw [List.getElem_replicate]; trivial
  · have ha' : a < n := by simpa [newS] using ha
    unfold newS
    rw [nodAt_lt _ _ (by simpa using ha')]
    simp
theorem nil_reads (w : World) : IsLS w (.slice none 0 0) (.slice none 0 0) (.slice none 0 0) ([], [], []) := ⟨⟨none, 0, rfl, fun j hj => by cases hj⟩, ⟨none, 0, rfl, fun j hj => by cases hj⟩, ⟨none, 0, rfl, fun j hj => by cases hj⟩⟩
theorem flat_nod (n : Nat) : (List.replicate n [Value.int .i64 (-1), Value.int .i64 (-1), Value.int .i64 (-1)]).flatten = nodF (List.replicate n ((-1, -1, -1) : Nod)) := by
  induction n with
  | zero => rfl
  | succ n ih => rw [List.replicate_succ, List.flatten_cons, ih, List.replicate_succ, nodF_cons]; rfl
theorem flat_int (n : Nat) : (List.replicate n [Value.int .i64 (-1)]).flatten = (List.replicate n (-1 : Int)).map (Value.int .i64) := by
  rw [List.flatten_replicate_singleton, List.map_replicate]

set_option maxRecDepth 100000 in
set_option maxHeartbeats 2000000 in
theorem new_any (n k : Int) (w : World) :
    Calls Try.prog 20 #[.int .i64 n, .int .i64 k] w fun e w' => ∃ un uh ut, e = .returned (.tuple #[.agg #[un, uh, ut], .int .i64 (newE n k)]) ∧ IsLS w' un uh ut (newR n k) ∧ (newE n k = 0 → NewLS w' w.heap.size un uh ut (newR n k)) ∧ Below w.heap.size w w' := by
  have hE : newE n k = if inB n 1 64 && inB k 1 8 then 0 else 8 := rfl
  have hbad : newE n k = 8 → newR n k = ([], [], []) := fun e => by unfold newR; rw [e]; rfl
  have BAD : ∀ w', newE n k = 8 → IsLS w' (.slice none 0 0) (.slice none 0 0) (.slice none 0 0) (newR n k) ∧ (newE n k = 0 → NewLS w' w.heap.size (.slice none 0 0) (.slice none 0 0) (.slice none 0 0) (newR n k)) := fun w' e => ⟨by rw [hbad e]; exact nil_reads w', fun h => by rw [e] at h; cases h⟩
  have BD := Lib.hid BAD
  clear hbad BAD
  by_cases q1 : n < 1
  · have hf : Hid (newE n k = 8) := Lib.hid (by rw [hE, if_neg]; rw [Bool.and_eq_true, inB_iff, inB_iff]; omega)
    clear hE
    go_enter Try.func20, Try.ntmps20
    go_wp2
    refine bodyPost_ret (v := .tuple #[.agg #[.slice none 0 0, .slice none 0 0, .slice none 0 0], .int .i64 8]) (by simp [results, Try.results20, go_sem]) rfl ⟨_, _, _, by rw [hf.out], (BD.out _ hf.out).1, (BD.out _ hf.out).2, ?_⟩
    (repeat (first | (with_reducible exact Below.refl _ _) | ((with_reducible refine below_alloc ?_ ?_ _); · (first | omega | (simp; done) | (simp; omega))) | ((with_reducible refine below_setCell ?_ ?_ _); · (first | omega | (simp; done) | (simp; omega))) | (with_reducible refine Below.drew ?_) | (with_reducible refine below_drewN ?_ _) | ((with_reducible refine below_call (by assumption) ?_ ?_); · (first | omega | (simp; done) | (simp; omega)))))
  · have q1' : 1 ≤ n := by omega
    by_cases q2 : 64 < n
    · have hf : Hid (newE n k = 8) := Lib.hid (by rw [hE, if_neg]; rw [Bool.and_eq_true, inB_iff, inB_iff]; omega)
      clear hE q1
      go_enter Try.func20, Try.ntmps20
      go_wp2
      refine bodyPost_ret (v := .tuple #[.agg #[.slice none 0 0, .slice none 0 0, .slice none 0 0], .int .i64 8]) (by simp [results, Try.results20, go_sem]) rfl ⟨_, _, _, by rw [hf.out], (BD.out _ hf.out).1, (BD.out _ hf.out).2, ?_⟩
      (repeat (first | (with_reducible exact Below.refl _ _) | ((with_reducible refine below_alloc ?_ ?_ _); · (first | omega | (simp; done) | (simp; omega))) | ((with_reducible refine below_setCell ?_ ?_ _); · (first | omega | (simp; done) | (simp; omega))) | (with_reducible refine Below.drew ?_) | (with_reducible refine below_drewN ?_ _) | ((with_reducible refine below_call (by assumption) ?_ ?_); · (first | omega | (simp; done) | (simp; omega)))))
    · have q2' : n ≤ 64 := by omega
      by_cases q3 : k < 1
      · have hf : Hid (newE n k = 8) := Lib.hid (by rw [hE, if_neg]; rw [Bool.and_eq_true, inB_iff, inB_iff]; omega)
        clear hE q1 q2
        go_enter Try.func20, Try.ntmps20
        go_wp2
        refine bodyPost_ret (v := .tuple #[.agg #[.slice none 0 0, .slice none 0 0, .slice none 0 0], .int .i64 8]) (by simp [results, Try.results20, go_sem]) rfl ⟨_, _, _, by rw [hf.out], (BD.out _ hf.out).1, (BD.out _ hf.out).2, ?_⟩
        (repeat (first | (with_reducible exact Below.refl _ _) | ((with_reducible refine below_alloc ?_ ?_ _); · (first | omega | (simp; done) | (simp; omega))) | ((with_reducible refine below_setCell ?_ ?_ _); · (first | omega | (simp; done) | (simp; omega))) | (with_reducible refine Below.drew ?_) | (with_reducible refine below_drewN ?_ _) | ((with_reducible refine below_call (by assumption) ?_ ?_); · (first | omega | (simp; done) | (simp; omega)))))
      · have q3' : 1 ≤ k := by omega
        by_cases q4 : 8 < k
        · have hf : Hid (newE n k = 8) := Lib.hid (by rw [hE, if_neg]; rw [Bool.and_eq_true, inB_iff, inB_iff]; omega)
          clear hE q1 q2 q3
          go_enter Try.func20, Try.ntmps20
          go_wp2
          refine bodyPost_ret (v := .tuple #[.agg #[.slice none 0 0, .slice none 0 0, .slice none 0 0], .int .i64 8]) (by simp [results, Try.results20, go_sem]) rfl ⟨_, _, _, by rw [hf.out], (BD.out _ hf.out).1, (BD.out _ hf.out).2, ?_⟩
          (repeat (first | (with_reducible exact Below.refl _ _) | ((with_reducible refine below_alloc ?_ ?_ _); · (first | omega | (simp; done) | (simp; omega))) | ((with_reducible refine below_setCell ?_ ?_ _); · (first | omega | (simp; done) | (simp; omega))) | (with_reducible refine Below.drew ?_) | (with_reducible refine below_drewN ?_ _) | ((with_reducible refine below_call (by assumption) ?_ ?_); · (first | omega | (simp; done) | (simp; omega)))))
        · have q4' : k ≤ 8 := by omega
          obtain ⟨N, rfl⟩ : ∃ N : Nat, n = N := ⟨n.toNat, by omega⟩
          obtain ⟨K, rfl⟩ : ∃ N : Nat, k = N := ⟨k.toNat, by omega⟩
          have hf : Hid (newE N K = 0 ∧ newR N K = newS N K) := by
            have e : newE N K = 0 := by rw [hE, if_pos]; rw [Bool.and_eq_true, inB_iff, inB_iff]; omega
            exact Lib.hid ⟨e, by unfold newR; rw [if_pos e]; rfl⟩
          have hN : 1 ≤ N ∧ N ≤ 64 := by omega
          have hK : 1 ≤ K ∧ K ≤ 8 := by omega
          clear hE q1 q2 q3 q4 BD
          have ca := fun W => alone_any W
          go_enter Try.func20, Try.ntmps20
          go_wp2_with fail
          refine (ca _).mono ?_; rintro e w1 ⟨rfl, hb1⟩
          obtain ⟨hk1, hf1, hz1⟩ := bcellN (n := w.heap.size + 1) (by (try simp only [World.size_drew, World.size_alloc, World.size_setCell]); omega) hb1; have hz1_0 : w.heap.size < w1.heap.size := (by omega)
          go_wp2_with fail
          refine (repeatN_any N w1.heap.size _ hN.1 hN.2 (fun j v hj => by
            match j, hj with
            | 0, hj => cases hj; simp [go_sem]
            | 1, hj => cases hj; simp [go_sem]
            | 2, hj => cases hj; simp [go_sem])).mono ?_; rintro e w2 ⟨rfl, hO2, hb2⟩
          obtain ⟨hk2, hf2, hz2⟩ := bcellN (n := w.heap.size + 1) (by (try simp only [World.size_drew, World.size_alloc, World.size_setCell]); omega) hb2; have hz2_0 : w.heap.size < w2.heap.size := (by omega)
          have hs1 := hb1.size
          have hs2 := hb2.size
          simp only [World.size_alloc] at hs1 hs2 hO2
          go_wp2_with fail
          refine (repeatI_any K w2.heap.size _ hK.1 (by omega) (fun j v hj => by
            match j, hj with
            | 0, hj => cases hj; simp [go_sem])).mono ?_; rintro e w3 ⟨rfl, hO3, hb3⟩
          obtain ⟨hk3, hf3, hz3⟩ := bcellN (n := w.heap.size + 1) (by (try simp only [World.size_drew, World.size_alloc, World.size_setCell]); omega) hb3; have hz3_0 : w.heap.size < w3.heap.size := (by omega)
          have hs3 := hb3.size
          simp only [World.size_alloc] at hs3 hO3
          go_wp2_with fail
          refine (repeatI_any K w3.heap.size _ hK.1 (by omega) (fun j v hj => by
            match j, hj with
            | 0, hj => cases hj; simp [go_sem])).mono ?_; rintro e w4 ⟨rfl, hO4, hb4⟩
          obtain ⟨hk4, hf4, hz4⟩ := bcellN (n := w.heap.size + 1) (by (try simp only [World.size_drew, World.size_alloc, World.size_setCell]); omega) hb4; have hz4_0 : w.heap.size < w4.heap.size := (by omega)
          have hs4 := hb4.size
          simp only [World.size_alloc] at hs4 hO4
          rw [flat_nod] at hO2
          rw [flat_int] at hO3 hO4
          have r2 : Hid (w4.ownsRow (w.heap.size + 1) 63 3 (.slice (some ⟨w1.heap.size + 1, 0, none⟩) N N) N (nodF (newS N K).1)) := Lib.hid (own_mono ((hO2.call' (show Below w2.heap.size w2 w3 by (repeat (first | (with_reducible exact Below.refl _ _) | ((with_reducible refine below_alloc ?_ ?_ _); · (first | omega | (simp; done) | (simp; omega))) | ((with_reducible refine below_setCell ?_ ?_ _); · (first | omega | (simp; done) | (simp; omega))) | (with_reducible refine Below.drew ?_) | (with_reducible refine below_drewN ?_ _) | ((with_reducible refine below_call (by assumption) ?_ ?_); · (first | omega | (simp; done) | (simp; omega))))))).call' (show Below w3.heap.size w3 w4 by (repeat (first | (with_reducible exact Below.refl _ _) | ((with_reducible refine below_alloc ?_ ?_ _); · (first | omega | (simp; done) | (simp; omega))) | ((with_reducible refine below_setCell ?_ ?_ _); · (first | omega | (simp; done) | (simp; omega))) | (with_reducible refine Below.drew ?_) | (with_reducible refine below_drewN ?_ _) | ((with_reducible refine below_call (by assumption) ?_ ?_); · (first | omega | (simp; done) | (simp; omega))))))) (by omega))
          have r3 : Hid (w4.ownsRow (w.heap.size + 1) 3 1 (.slice (some ⟨w2.heap.size + 1, 0, none⟩) K K) K ((newS N K).2.1.map (Value.int .i64))) := Lib.hid (own_mono (hO3.call' (show Below w3.heap.size w3 w4 by (repeat (first | (with_reducible exact Below.refl _ _) | ((with_reducible refine below_alloc ?_ ?_ _); · (first | omega | (simp; done) | (simp; omega))) | ((with_reducible refine below_setCell ?_ ?_ _); · (first | omega | (simp; done) | (simp; omega))) | (with_reducible refine Below.drew ?_) | (with_reducible refine below_drewN ?_ _) | ((with_reducible refine below_call (by assumption) ?_ ?_); · (first | omega | (simp; done) | (simp; omega))))))) (by omega))
          have r4 : Hid (w4.ownsRow (w.heap.size + 1) 3 1 (.slice (some ⟨w3.heap.size + 1, 0, none⟩) K K) K ((newS N K).2.2.map (Value.int .i64))) := Lib.hid (own_mono hO4 (by omega))
          clear hO2 hO3 hO4
          go_wp2
          have hO : OwnLS w4 (w.heap.size + 1) N K (w1.heap.size + 1) (w2.heap.size + 1) (w3.heap.size + 1) N K K (newS N K) := ⟨r2.out, r3.out, r4.out, ⟨by omega, by omega, by omega⟩, by simp [newS], by simp [newS], by simp [newS]⟩
          have hO' := ((hO.keep (b := w.heap.size) (o := 0) (.slice (some ⟨w1.heap.size + 1, 0, none⟩) N N) (by omega)).keep (b := w.heap.size) (o := 1) (.slice (some ⟨w2.heap.size + 1, 0, none⟩) K K) (by omega)).keep (b := w.heap.size) (o := 2) (.slice (some ⟨w3.heap.size + 1, 0, none⟩) K K) (by omega)
          refine bodyPost_ret (v := .tuple #[.agg #[.slice (some ⟨w1.heap.size + 1, 0, none⟩) N N, .slice (some ⟨w2.heap.size + 1, 0, none⟩) K K, .slice (some ⟨w3.heap.size + 1, 0, none⟩) K K], .int .i64 0]) (by simp [results, Try.results20, go_sem, hk1, hz1_0, hk2, hz2_0, hk3, hz3_0, hk4, hz4_0]) rfl ⟨_, _, _, by rw [hf.out.1], by rw [hf.out.2]; exact hO'.reads, fun _ => ⟨_, _, _, _, _, _, _, _, rfl, rfl, rfl, by rw [hf.out.2]; exact hO'.mono (by omega)⟩, ?_⟩
          (repeat (first | (with_reducible exact Below.refl _ _) | ((with_reducible refine below_alloc ?_ ?_ _); · (first | omega | (simp; done) | (simp; omega))) | ((with_reducible refine below_setCell ?_ ?_ _); · (first | omega | (simp; done) | (simp; omega))) | (with_reducible refine Below.drew ?_) | (with_reducible refine below_drewN ?_ _) | ((with_reducible refine below_call (by assumption) ?_ ?_); · (first | omega | (simp; done) | (simp; omega)))))
end Go.Proofs.Ytkcenadenmkgnaa
