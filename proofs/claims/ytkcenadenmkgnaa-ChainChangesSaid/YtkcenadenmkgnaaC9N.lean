/- Contracts of layer 4, the document's: New. -/
import Derived.Test.YtkcenadenmkgnaaC9A
import Derived.Test.YtkcenadenmkgnaaC8M
import Derived.Laws.MakeOwn
namespace Go.Proofs.Ytkcenadenmkgnaa
open Go.RowKit
set_option linter.unusedVariables false
set_option linter.unusedSimpArgs false

theorem made_rows (N : Nat) : madeCells (Value.slice none 0 0).cells N = (List.replicate N (Value.slice none 0 0)).toArray := by
  have hz : (Value.slice none 0 0).cells = #[.slice none 0 0] := by simp [Value.cells]
  rw [hz]
  apply Array.ext
  · simp [madeCells]
  · intro i h1 h2
    simp [madeCells, Nat.mod_one]
theorem laid_none (n k : Nat) : GoodL n (List.replicate k []) ∧ laidS n (List.replicate k []) = newS n k := by
  have h := rep_newS n k
  have hl : (newS n k).1.length = n := by simp [newS]
  have hg : GoodL n (List.replicate k []) := by have := rep_good h; rw [hl] at this; exact this
  exact ⟨hg, (laid_rep hg).uniq h ((laidS_len _ _).1.trans hl.symm)⟩
set_option maxRecDepth 100000 in
set_option maxHeartbeats 2000000 in
theorem refnew_any (n k : Int) (w : World) :
    Calls Try.prog 21 #[.int .i64 n, .int .i64 k] w fun e w' => ∃ un uh ut, e = .returned (.tuple #[.agg #[un, uh, ut], .int .i64 (newE n k)]) ∧ IsLS w' un uh ut (newR n k) ∧ Below w.heap.size w w' := by
  have hE : newE n k = if inB n 1 64 && inB k 1 8 then 0 else 8 := rfl
  have hbad : newE n k = 8 → newR n k = ([], [], []) := fun e => by unfold newR; rw [e]; rfl
  have c1 := fun W => in_any n 1 64 W
  have c2 := fun W => in_any k 1 8 W
  cases h1 : inB n 1 64
  · rw [h1] at c1 hE
    have HE := Lib.hid (show newE n k = 8 from hE)
    have HB := Lib.hid (hbad HE.out)
    clear hE hbad h1
    go_enter Try.func21, Try.ntmps21
    go_wp2_with fail
    refine (c1 _).mono ?_; rintro e w1 ⟨rfl, hb1⟩
    obtain ⟨hk1, hf1, hz1⟩ := bcellN (n := w.heap.size + 1) (by (try simp only [World.size_drew, World.size_alloc, World.size_setCell]); omega) hb1; have hz1_0 : w.heap.size < w1.heap.size := (by omega)
    go_wp2_with fail
    refine bodyPost_ret (v := .tuple #[.agg #[.slice none 0 0, .slice none 0 0, .slice none 0 0], .int .i64 8]) (by simp [results, Try.results21, go_sem, hk1, hz1_0]) rfl ⟨_, _, _, by rw [HE.out], by rw [HB.out]; exact nil_reads _, ?_⟩
    (repeat (first | (with_reducible exact Below.refl _ _) | ((with_reducible refine below_alloc ?_ ?_ _); · (first | omega | (simp; done) | (simp; omega))) | ((with_reducible refine below_setCell ?_ ?_ _); · (first | omega | (simp; done) | (simp; omega))) | (with_reducible refine Below.drew ?_) | (with_reducible refine below_drewN ?_ _) | ((with_reducible refine below_call (by assumption) ?_ ?_); · (first | omega | (simp; done) | (simp; omega)))))
  · rw [h1] at c1 hE
    cases h2 : inB k 1 8
    · rw [h2] at c2 hE
      have HE := Lib.hid (show newE n k = 8 from hE)
      have HB := Lib.hid (hbad HE.out)
      clear hE hbad h1 h2
      go_enter Try.func21, Try.ntmps21
      go_wp2_with fail
      refine (c1 _).mono ?_; rintro e w1 ⟨rfl, hb1⟩
      obtain ⟨hk1, hf1, hz1⟩ := bcellN (n := w.heap.size + 1) (by (try simp only [World.size_drew, World.size_alloc, World.size_setCell]); omega) hb1; have hz1_0 : w.heap.size < w1.heap.size := (by omega)
      go_wp2_with fail
      refine (c2 _).mono ?_; rintro e w2 ⟨rfl, hb2⟩
      obtain ⟨hk2, hf2, hz2⟩ := bcellN (n := w.heap.size + 1) (by (try simp only [World.size_drew, World.size_alloc, World.size_setCell]); omega) hb2; have hz2_0 : w.heap.size < w2.heap.size := (by omega)
      go_wp2_with fail
      refine bodyPost_ret (v := .tuple #[.agg #[.slice none 0 0, .slice none 0 0, .slice none 0 0], .int .i64 8]) (by simp [results, Try.results21, go_sem, hk1, hz1_0, hk2, hz2_0]) rfl ⟨_, _, _, by rw [HE.out], by rw [HB.out]; exact nil_reads _, ?_⟩
      (repeat (first | (with_reducible exact Below.refl _ _) | ((with_reducible refine below_alloc ?_ ?_ _); · (first | omega | (simp; done) | (simp; omega))) | ((with_reducible refine below_setCell ?_ ?_ _); · (first | omega | (simp; done) | (simp; omega))) | (with_reducible refine Below.drew ?_) | (with_reducible refine below_drewN ?_ _) | ((with_reducible refine below_call (by assumption) ?_ ?_); · (first | omega | (simp; done) | (simp; omega)))))
    · rw [h2] at c2 hE
      have HE := Lib.hid (show newE n k = 0 from hE)
      rw [inB_iff] at h1 h2
      obtain ⟨N, rfl⟩ : ∃ N : Nat, n = N := ⟨n.toNat, by omega⟩
      obtain ⟨K, rfl⟩ : ∃ K : Nat, k = K := ⟨k.toNat, by omega⟩
      obtain ⟨hg, hl⟩ := laid_none N K
      have HR := Lib.hid (show newR N K = laidS N (List.replicate K []) by unfold newR; rw [if_pos HE.out, Int.toNat_natCast, Int.toNat_natCast, hl])
      obtain ⟨i1, hi1, hk0, hk1, hk2⟩ := info_parts info_ints
      obtain ⟨M, hM⟩ : ∃ M, M = madeCells (Value.slice none 0 0).cells (K * i1.size) := ⟨_, rfl⟩
      have hM2 : M = (List.replicate K (Value.slice none 0 0)).toArray := by rw [hM, hk1, Nat.mul_one, made_rows]
      have hmk : ∀ W : World, (Instr.makeSlice 71 (.int .i64 (K : Int)) (.int .i64 (K : Int))).run Try.prog W = .ok (.slice (some ⟨W.heap.size, 0, none⟩) K K) (W.alloc (.cells M 23)) := fun W => by
        have h := run_make (P := Try.prog) W 71 23 i1 (.slice none 0 0) Try.underlying71 hi1 hk0 .i64 .i64 (K : Int) (K : Int) (by omega) (by omega) (by rw [hk2]; omega) (by omega)
        simp only [Int.toNat_natCast] at h
        rw [← hM] at h
        exact h
      have HII := Lib.hid (fun W => (show IsII (World.alloc W (.cells M 23)) (.slice (some ⟨W.heap.size, 0, none⟩) K K) (List.replicate K []) from
        ⟨some ⟨W.heap.size, 0, none⟩, K, by rw [List.length_replicate], fun j hj => ⟨W.heap.size, 0, .slice none 0 0, rfl, by
          have h := World.news_of_block (heap_alloc_new W (.cells M 23)) j (.slice none 0 0) (by rw [hM2]; rw [List.length_replicate] at hj; simp [hj])
          rw [Addr.add_lit] at h
          exact h, by rw [List.getElem_replicate]; exact ⟨none, 0, rfl, fun i hi => by cases hi⟩⟩⟩))
      have HNK := Lib.hid (show (1 ≤ N ∧ N ≤ 64) ∧ K ≤ 8 by omega)
      have HGG := Lib.hid hg
      clear hE hbad h1 h2 hM hM2 hl hg
      go_enter Try.func21, Try.ntmps21
      go_wp2_with fail
      refine (c1 _).mono ?_; rintro e w1 ⟨rfl, hb1⟩
      obtain ⟨hk1, hf1, hz1⟩ := bcellN (n := w.heap.size + 1) (by (try simp only [World.size_drew, World.size_alloc, World.size_setCell]); omega) hb1; have hz1_0 : w.heap.size < w1.heap.size := (by omega)
      go_wp2_with fail
      refine (c2 _).mono ?_; rintro e w2 ⟨rfl, hb2⟩
      obtain ⟨hk2, hf2, hz2⟩ := bcellN (n := w.heap.size + 1) (by (try simp only [World.size_drew, World.size_alloc, World.size_setCell]); omega) hb2; have hz2_0 : w.heap.size < w2.heap.size := (by omega)
      go_wp2_with fail
      refine (laid_any N _ (List.replicate K []) _ (HII.out w2) HGG.out HNK.out.1 (by rw [List.length_replicate]; exact HNK.out.2)).mono ?_; rintro e w3 ⟨un, uh, ut, rfl, hI, hF, hb3⟩
      obtain ⟨hk3, hf3, hz3⟩ := bcellN (n := w.heap.size + 1) (by (try simp only [World.size_drew, World.size_alloc, World.size_setCell]); omega) hb3; have hz3_0 : w.heap.size < w3.heap.size := (by omega)
      obtain ⟨⟨p3, q3, rfl, -⟩, ⟨p4, q4, rfl, -⟩, ⟨p5, q5, rfl, -⟩⟩ := id hI
      have HI := Lib.hid hI
      have HF := Lib.hid (hF.mono (B' := w.heap.size + 1) (by rw [World.size_alloc]; omega))
      clear hI hF
      go_wp2_with fail
      refine bodyPost_ret (v := .tuple #[.agg #[.slice p3 (laidS N (List.replicate K [])).1.length q3, .slice p4 (laidS N (List.replicate K [])).2.1.length q4, .slice p5 (laidS N (List.replicate K [])).2.2.length q5], .int .i64 0]) (by simp [results, Try.results21, go_sem, hk1, hz1_0, hk2, hz2_0, hk3, hz3_0]) rfl ⟨_, _, _, by rw [HE.out], ?_, ?_⟩
      · rw [HR.out]
        exact ((HI.out.from HF.out (Nat.lt_succ_self _)).from HF.out (Nat.lt_succ_self _)).from HF.out (Nat.lt_succ_self _)
      · (repeat (first | (with_reducible exact Below.refl _ _) | ((with_reducible refine below_alloc ?_ ?_ _); · (first | omega | (simp; done) | (simp; omega))) | ((with_reducible refine below_setCell ?_ ?_ _); · (first | omega | (simp; done) | (simp; omega))) | (with_reducible refine Below.drew ?_) | (with_reducible refine below_drewN ?_ _) | ((with_reducible refine below_call (by assumption) ?_ ?_); · (first | omega | (simp; done) | (simp; omega)))))
end Go.Proofs.Ytkcenadenmkgnaa
