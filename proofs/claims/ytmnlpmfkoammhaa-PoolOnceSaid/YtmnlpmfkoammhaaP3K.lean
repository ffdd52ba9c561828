/- Contracts of layer 3, the document's: New. -/
import Derived.Test.YtmnlpmfkoammhaaP3M
import Derived.Test.YtmnlpmfkoammhaaP3I
namespace Go.Proofs.Ytmnlpmfkoammhaa
open Go.RowKit
set_option linter.unusedVariables false
set_option linter.unusedSimpArgs false

abbrev zeroC : Cel := (0, false, 0)
def freeL (n : Int) (k : Nat) : List Int := (List.range k).map fun (i : Nat) => n - 1 - (i : Int)
theorem freeL_succ (n : Int) (k : Nat) : freeL n (k + 1) = freeL n k ++ [n - 1 - k] := by
  unfold freeL; rw [List.range_succ, List.map_append]; rfl
theorem freeL_len (n : Int) (k : Nat) : (freeL n k).length = k := by unfold freeL; simp
theorem zeroC_succ (k : Nat) : celF (List.replicate (k + 1) zeroC) = celF (List.replicate k zeroC) ++ [.int .i64 0, .bool false, .int .i64 0] := by
  rw [List.replicate_succ', celF, List.flatMap_append, List.flatMap_singleton]; rfl
/-- a new state -/
def newN (n : Int) : St × Int := if n < 1 ∨ 64 < n then (([], []), 8) else ((List.replicate n.toNat zeroC, freeL n n.toNat), 0)
theorem ownsRow_grown {w w' : World} {B : Nat} {E : TypeId} {z n : Nat} {v : Value} {xs : List Value} {row : Option Nat} (h : w.ownsRow B E z v n xs) (hg : w.grownBy w' row) (hne : ∀ q, v.ownBlock = some q → some q ≠ row) : w'.ownsRow B E z v n xs := by
  have hlt := h.lt
  obtain ⟨h1, h2⟩ := h
  refine ⟨h1, ?_⟩
  rcases h2 with h2 | ⟨g, cap, cur, hv, hB, hc, r⟩
  · exact .inl h2
  · exact .inr ⟨g, cap, cur, hv, hB, (hg.block g (hlt g (by rw [hv]; rfl)).2 (hne g (by rw [hv]; rfl))).trans hc, r⟩

set_option maxRecDepth 100000 in
set_option maxHeartbeats 4000000 in
theorem refnew_any (n : Int) (w : World) :
    Calls Try.prog 21 #[.int .i64 n] w (RetS1 w (newN n)) := by
  obtain ⟨i0, hi, hj0, hj1, hj2⟩ := info_parts info_cel
  obtain ⟨i1, hi1, hk0, hk1, hk2⟩ := info_parts info_int
  by_cases h1 : n < 1
  · have HN : Hid (newN n = (([], []), 8)) := Lib.hid (by unfold newN; rw [if_pos (.inl h1)])
    go_enter Try.func21, Try.ntmps21
    go_wp2
    refine bodyPost_ret (v := .tuple #[.agg #[.slice none 0 0, .slice none 0 0], .int .i64 8]) (by simp [results, Try.results21, go_sem]) rfl (RetS1.mk HN.out ⟨(OwnC.nil 64 _ 0).reads, (OwnI.nil _ 0).reads⟩ (OwnI.nil w 0).capOk ?_)
    (repeat (first | (with_reducible exact Below.refl _ _) | ((with_reducible refine below_alloc ?_ ?_ _); · (first | omega | (simp; done) | (simp; omega))) | ((with_reducible refine below_setCell ?_ ?_ _); · (first | omega | (simp; done) | (simp; omega))) | (with_reducible refine Below.drew ?_) | (with_reducible refine below_drewN ?_ _) | ((with_reducible refine below_call (by assumption) ?_ ?_); · (first | omega | (simp; done) | (simp; omega)))))
  · by_cases h2 : 64 < n
    · have HN : Hid (newN n = (([], []), 8)) := Lib.hid (by unfold newN; rw [if_pos (.inr h2)])
      have h1' : 1 ≤ n := by omega
      clear h1
      go_enter Try.func21, Try.ntmps21
      go_wp2
      refine bodyPost_ret (v := .tuple #[.agg #[.slice none 0 0, .slice none 0 0], .int .i64 8]) (by simp [results, Try.results21, go_sem]) rfl (RetS1.mk HN.out ⟨(OwnC.nil 64 _ 0).reads, (OwnI.nil _ 0).reads⟩ (OwnI.nil w 0).capOk ?_)
      (repeat (first | (with_reducible exact Below.refl _ _) | ((with_reducible refine below_alloc ?_ ?_ _); · (first | omega | (simp; done) | (simp; omega))) | ((with_reducible refine below_setCell ?_ ?_ _); · (first | omega | (simp; done) | (simp; omega))) | (with_reducible refine Below.drew ?_) | (with_reducible refine below_drewN ?_ _) | ((with_reducible refine below_call (by assumption) ?_ ?_); · (first | omega | (simp; done) | (simp; omega)))))
    · have HN : Hid (newN n = ((List.replicate n.toNat zeroC, freeL n n.toNat), 0)) := Lib.hid (by unfold newN; rw [if_neg (by omega)])
      have h1' : 1 ≤ n := by omega
      have h2' : n ≤ 64 := by omega
      clear h1 h2
      go_enter Try.func21, Try.ntmps21
      go_wp2
      go_loopw [5] (fun i wr => ∃ k : Nat, i = .int .i64 k ∧ (k : Int) ≤ n ∧ (∃ ao cp bo cq, wr.cell? ⟨w.heap.size + 1, 0, none⟩ = some (.slice ao k cp) ∧ wr.cell? ⟨w.heap.size + 1, 1, none⟩ = some (.slice bo k cq) ∧ wr.ownsRow (w.heap.size + 2) 64 3 (.slice ao k cp) k (celF (List.replicate k zeroC)) ∧ wr.ownsRow (w.heap.size + 2) 3 1 (.slice bo k cq) k ((freeL n k).map (Value.int .i64)) ∧ ∀ q, (Value.slice ao k cp).ownBlock = some q → (Value.slice bo k cq).ownBlock = some q → False) ∧ wr.cell? ⟨w.heap.size, 0, none⟩ = some (.slice none 0 0) ∧ wr.cell? ⟨w.heap.size, 1, none⟩ = some (.slice none 0 0) ∧ (∀ b o, w.heap.size ≤ b → b < w.heap.size + 2 → wr.frozen? ⟨b, o, none⟩ = false) ∧ w.heap.size + 2 ≤ wr.heap.size ∧ Below w.heap.size w wr) (fun i _ => (n - intOf i).toNat)
      case atStart =>
        refine ⟨0, rfl, by omega, ⟨none, 0, none, 0, ?_, ?_, World.ownsRow_nil _ _ _ _, World.ownsRow_nil _ (w.heap.size + 2) 3 1, fun q h => by cases h⟩, ?_, ?_, ?_, ?_, ?_⟩
        · simp [go_sem]
        · simp [go_sem]
        · simp [go_sem]
        · simp [go_sem]
        · intro b o h1 h2
          have : b = w.heap.size ∨ b = w.heap.size + 1 := by omega
          rcases this with rfl | rfl <;> simp [go_sem]
        · simp
        · (repeat (first | (with_reducible exact Below.refl _ _) | ((with_reducible refine below_alloc ?_ ?_ _); · (first | omega | (simp; done) | (simp; omega))) | ((with_reducible refine below_setCell ?_ ?_ _); · (first | omega | (simp; done) | (simp; omega))) | (with_reducible refine Below.drew ?_) | (with_reducible refine below_drewN ?_ _) | ((with_reducible refine below_call (by assumption) ?_ ?_); · (first | omega | (simp; done) | (simp; omega)))))
      case round =>
        obtain ⟨k, rfl, hk, ⟨ao, cp, bo, cq, e2, e3, hownC, hownI, hne⟩, e0, e1, hfz, hsz, hB⟩ := hrel
        by_cases hlt : (k : Int) < n
        · have hz_0 : w.heap.size < wr.heap.size := by omega
          have hz_1 : w.heap.size + 1 < wr.heap.size := by omega
          have HC := Lib.hid hownC
          have HI := Lib.hid hownI
          have HNE := Lib.hid hne
          have HF := Lib.hid hfz
          have f2 := hfz (w.heap.size + 1) 0 (by omega) (by omega)
          have f3 := hfz (w.heap.size + 1) 1 (by omega) (by omega)
          obtain ⟨y, hy⟩ : ∃ y, n - 1 - (k : Int) = y := ⟨_, rfl⟩
          have hy0 : 0 ≤ y := by omega
          have hy1 : y ≤ 64 := by omega
          have hk64 : (k : Int) ≤ 64 := by omega
          clear hownC hownI hne hfz
          go_wp2_with (first | (at_builtin; (refine wpList_append_lies _ rfl _ _ 23 rfl (w.heap.size + 2) 3 i1 (.int .i64 0) 1 8 Try.underlying23 hi1 hk0 hk1 hk2 rfl (by decide) (.slice bo k cq) k ((freeL n k).map (Value.int .i64)) rfl ((ownsRow_below HI1.out _ _ (by show w.heap.size + 1 < _; omega)).alloc _) ⟨w1.heap.size, 0, none⟩ 1 1 [.int .i64 y] rfl rfl (World.news_of_block (by have h := heap_alloc_new (w1.setCell ⟨w.heap.size + 1, 0, none⟩ (.slice (some ⟨g, 0, none⟩) (k + 1) cap)) (.cells #[.int .i64 y] 3); simpa only [World.size_setCell] using h)) (by simp [Value.oneCell']) (by decide) (by unfold maxLen; omega) (by omega) (by have := hb1.size; simp; omega) _ rfl ?_); intro g2 cap2 w3 hown3 hgr3 hat3 hlt3; (have hb3 := Below.grown (Below.alloc (Below.refl (w.heap.size + 2) (w1.setCell ⟨w.heap.size + 1, 0, none⟩ (.slice (some ⟨g, 0, none⟩) (k + 1) cap))) (by have := hb1.size; simp; omega) _) hgr3 (by have := hb1.size; simp; omega) (fun q hq => (HI1.out.lt q hq).1); have q4 := frozen_far hb3 (w.heap.size + 1) 1 (by omega); have q5 : w3.frozen? ⟨w.heap.size + 1, 1, none⟩ = false := (by rw [q4]; simp [go_sem, q3]); have k4 : w3.cell? ⟨w.heap.size + 1, 1, none⟩ = some (.slice bo k cq) := (by rw [hb3.cell (by show w.heap.size + 1 < _; omega)]; simp [go_sem, k3]); have HG3 := Lib.hid (And.intro hown3 (And.intro hgr3 hat3)); clear hown3 hgr3 hat3)) | (at_builtin; (refine wpList_append_lies _ rfl _ _ 22 rfl (w.heap.size + 2) 64 i0 (.agg #[.int .i64 0, .bool false, .int .i64 0]) 3 24 Try.underlying22 hi hj0 hj1 hj2 rfl (by decide) (.slice ao k cp) k (celF (List.replicate k zeroC)) rfl (HC.out.alloc _) ⟨wr.heap.size, 0, none⟩ 1 1 [.int .i64 0, .bool false, .int .i64 0] rfl rfl (World.news_of_block (heap_alloc_new wr _)) (by simp [Value.oneCell']) (by decide) (by unfold maxLen; omega) (by omega) (by simp; omega) _ rfl ?_); intro g cap w1 hown1 hgr1 hat1 hlt1; (have hb1 : Below (w.heap.size + 2) wr w1 := (((Below.refl _ _).alloc (by omega) _).grown hgr1 (by simp; omega) (fun q hq => (HC.out.lt q hq).1)); have k2 := (hb1.cell (p := ⟨w.heap.size + 1, 0, none⟩) (by show w.heap.size + 1 < _; omega)).trans e2; have k3 := (hb1.cell (p := ⟨w.heap.size + 1, 1, none⟩) (by show w.heap.size + 1 < _; omega)).trans e3; have q2 := (frozen_far hb1 (w.heap.size + 1) 0 (by omega)).trans f2; have q3 := (frozen_far hb1 (w.heap.size + 1) 1 (by omega)).trans f3; have HI1 := Lib.hid (ownsRow_grown (HI.out.alloc _) hgr1 (fun q hq e => HNE.out q e.symm hq)); have HG1 := Lib.hid (And.intro hown1 (And.intro hgr1 hat1)); clear hown1 hgr1 hat1)))
          go_roundw
          case rel =>
            obtain ⟨hown1, hgr1, hat1⟩ := HG1.out
            obtain ⟨hown3, hgr3, hat3⟩ := HG3.out
            have hz1 := hb1.size
            have hz3 := hb3.size
            simp only [World.size_setCell] at hz3
            have hgb : (Value.slice bo k cq).ownBlock = some g → False := fun e => by
              rcases hat1 with h | h
              · exact HNE.out g h e
              · have := (HI.out.lt g e).2
                simp only [World.size_alloc] at h
                omega
            have hB1 : Below w.heap.size w w1 := hB.trans (hb1.mono (by omega))
            have hB3 : Below w.heap.size (w1.setCell ⟨w.heap.size + 1, 0, none⟩ (.slice (some ⟨g, 0, none⟩) (k + 1) cap)) w3 := hb3.mono (by omega)
            refine ⟨k + 1, by go_num, by omega, ⟨some ⟨g, 0, none⟩, cap, some ⟨g2, 0, none⟩, cap2, ?_, ?_, ownsRow_below (ownsRow_grown ((ownsRow_below (by rw [zeroC_succ]; exact hown1) _ _ (by show w.heap.size + 1 < _; omega)).alloc _) hgr3 (fun q hq e => hgb (by cases hq; exact e.symm))) _ _ (by show w.heap.size + 1 < _; omega), ownsRow_below (by rw [freeL_succ, List.map_append, hy]; exact hown3) _ _ (by show w.heap.size + 1 < _; omega), ?_⟩, ?_, ?_, ?_, ?_, ?_⟩
            · simp [go_sem]; rw [hb3.cell (by show w.heap.size + 1 < _; omega)]; simp [go_sem, k2]
            · simp [go_sem, k4]
            · intro q h h'
              cases h; cases h'
              rcases hat3 with h | h
              · exact hgb h
              · simp only [World.size_alloc, World.size_setCell] at h
                omega
            · simp [go_sem]; rw [hb3.cell (by show w.heap.size < _; omega)]; simp [go_sem]; exact (hb1.cell (p := ⟨w.heap.size, 0, none⟩) (by show w.heap.size < _; omega)).trans e0
            · simp [go_sem]; rw [hb3.cell (by show w.heap.size < _; omega)]; simp [go_sem]; exact (hb1.cell (p := ⟨w.heap.size, 1, none⟩) (by show w.heap.size < _; omega)).trans e1
            · intro b o h1 h2; simp [go_sem]; rw [frozen_far hb3 _ _ (by omega)]; simp [go_sem]; exact (frozen_far hb1 _ _ (by omega)).trans (HF.out b o h1 h2)
            · simp; omega
            · have hB4 : Below w.heap.size w w3 := Below.trans (by (repeat (first | (with_reducible exact Below.refl _ _) | ((with_reducible refine below_alloc ?_ ?_ _); · (first | omega | (simp; done) | (simp; omega))) | ((with_reducible refine below_setCell ?_ ?_ _); · (first | omega | (simp; done) | (simp; omega))) | (with_reducible refine Below.drew ?_) | (with_reducible refine below_drewN ?_ _) | ((with_reducible refine below_call (by assumption) ?_ ?_); · (first | omega | (simp; done) | (simp; omega)))))) hB3
              (repeat (first | (with_reducible exact Below.refl _ _) | ((with_reducible refine below_alloc ?_ ?_ _); · (first | omega | (simp; done) | (simp; omega))) | ((with_reducible refine below_setCell ?_ ?_ _); · (first | omega | (simp; done) | (simp; omega))) | (with_reducible refine Below.drew ?_) | (with_reducible refine below_drewN ?_ _) | ((with_reducible refine below_call (by assumption) ?_ ?_); · (first | omega | (simp; done) | (simp; omega)))))
          case measure => simp [intOf]; omega
        · have hkn : n.toNat = k := by omega
          have hlt' : n ≤ (k : Int) := by omega
          have f2 := hfz w.heap.size 0 (by omega) (by omega)
          have f3 := hfz w.heap.size 1 (by omega) (by omega)
          have HN2 : Hid (newN n = ((List.replicate k zeroC, freeL n k), 0)) := Lib.hid (by rw [HN.out, hkn])
          have HC := Lib.hid hownC
          have HI := Lib.hid hownI
          clear hownC hownI hne hfz hkn
          go_wp2
          have hC : OwnC 64 wr (w.heap.size + 2) (.slice ao k cp) (List.replicate k zeroC) := by
            show World.ownsRow _ _ _ _ _ _ _
            rw [List.length_replicate]; exact HC.out
          have hI : OwnI wr (w.heap.size + 2) (.slice bo k cq) (freeL n k) := by
            show World.ownsRow _ _ _ _ _ _ _
            rw [freeL_len]; exact HI.out
          refine bodyPost_ret (v := .tuple #[.agg #[.slice ao k cp, .slice bo k cq], .int .i64 0]) (by simp [results, Try.results21, go_sem, e0, e1]) rfl (RetS1.mk HN2.out ⟨((hC.below _ _ (by show w.heap.size < _; omega)).below _ _ (by show w.heap.size < _; omega)).reads, ((hI.below _ _ (by show w.heap.size < _; omega)).below _ _ (by show w.heap.size < _; omega)).reads⟩ hI.capOk ?_)
          (repeat (first | (with_reducible exact Below.refl _ _) | ((with_reducible refine below_alloc ?_ ?_ _); · (first | omega | (simp; done) | (simp; omega))) | ((with_reducible refine below_setCell ?_ ?_ _); · (first | omega | (simp; done) | (simp; omega))) | (with_reducible refine Below.drew ?_) | (with_reducible refine below_drewN ?_ _) | ((with_reducible refine below_call (by assumption) ?_ ?_); · (first | omega | (simp; done) | (simp; omega)))))
end Go.Proofs.Ytmnlpmfkoammhaa
