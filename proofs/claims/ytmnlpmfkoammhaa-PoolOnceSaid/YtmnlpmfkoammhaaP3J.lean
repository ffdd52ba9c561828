/- Contracts of layer 3, the document's: Set. -/
import Derived.Test.YtmnlpmfkoammhaaP3I
namespace Go.Proofs.Ytmnlpmfkoammhaa
open Go.RowKit
set_option linter.unusedVariables false
set_option linter.unusedSimpArgs false

/-- what Set hands back -/
def setN (st : St) (h v : Int) : St × Int :=
  if chkN st ≠ 0 then (st, chkN st)
  else if placeN st.1 h < 0 then (st, 6)
  else ((st.1.set (placeN st.1 h).toNat ((celAt st.1 (placeN st.1 h).toNat).1, true, v), st.2), 0)
theorem setN_yes {st : St} {h v : Int} {k : Nat} {g : Int} (h0 : chkN st = 0) (hp : placeN st.1 h = k) (hk : k < st.1.length) (hg : st.1[k].1 = g) :
    setN st h v = ((st.1.set k (g, true, v), st.2), 0) := by
  unfold setN
  rw [if_neg (fun x => x h0), if_neg (by omega), hp, Int.toNat_natCast, celAt_lt _ _ hk, hg]

set_option maxRecDepth 100000 in
set_option maxHeartbeats 4000000 in
theorem refset_any (vc vf : Value) (st : St) (h v : Int) (w : World) (hv : IsSt w vc vf st) (hcap : CapOk vf) (hl : st.1.length ≤ 1048576) (hf : st.2.length ≤ 1048576) :
    Calls Try.prog 15 #[.agg #[vc, vf], .int .i64 h, .int .i64 v] w (RetS1 w (setN st h v)) := by
  obtain ⟨l, fr⟩ := st
  replace hl : l.length ≤ 1048576 := hl
  replace hf : fr.length ≤ 1048576 := hf
  have hv0 := hv
  obtain ⟨⟨pc, cc, rfl, hp⟩, ⟨pf, cf, rfl, hq⟩⟩ := hv
  have Hp := Lib.hid hp
  have Hv := Lib.hid hv0
  have Hc := Lib.hid hcap
  clear hp hq hv0 hcap
  by_cases hc : chkN (l, fr) = 0
  · have HC := Lib.hid hc
    obtain ⟨hl1, hl2, -, -, hfb⟩ := chk_parts hc
    replace hl2 : l.length ≤ 64 := hl2
    rcases placeN_bd l h with hpl | hpl
    · have HP := Lib.hid hpl
      have HN : Hid (setN (l, fr) h v = ((l, fr), 6)) := Lib.hid (by unfold setN; rw [if_neg (fun h => h hc), if_pos (by show placeN l h < 0; omega)])
      clear hc hpl hfb
      go_enter Try.func15, Try.ntmps15
      go_wp2_with (first | (go_at_call 23; refine (refcheck_any _ _ (l, fr) _ (by exact Hv.out.call (by (repeat (first | (with_reducible exact Below.refl _ _) | ((with_reducible refine below_alloc ?_ ?_ _); · (first | omega | (simp; done) | (simp; omega))) | ((with_reducible refine below_setCell ?_ ?_ _); · (first | omega | (simp; done) | (simp; omega))) | (with_reducible refine Below.drew ?_) | (with_reducible refine below_drewN ?_ _) | ((with_reducible refine below_call (by assumption) ?_ ?_); · (first | omega | (simp; done) | (simp; omega))))))) hl hf).mono ?_; rintro e w1 ⟨rfl, hb1⟩; rw [HC.out]; obtain ⟨hk1, hf1, hz1⟩ := bcellN (n := w.heap.size + 2) (by (try simp only [World.size_drew, World.size_alloc, World.size_setCell]); omega) hb1; have hz1_0 : w.heap.size < w1.heap.size := (by omega); have hz1_1 : w.heap.size + 1 < w1.heap.size := (by omega)) | (go_at_call 38; refine (refplace_any _ _ (l, fr) h _ (by exact Hv.out.1.call (by (repeat (first | (with_reducible exact Below.refl _ _) | ((with_reducible refine below_alloc ?_ ?_ _); · (first | omega | (simp; done) | (simp; omega))) | ((with_reducible refine below_setCell ?_ ?_ _); · (first | omega | (simp; done) | (simp; omega))) | (with_reducible refine Below.drew ?_) | (with_reducible refine below_drewN ?_ _) | ((with_reducible refine below_call (by assumption) ?_ ?_); · (first | omega | (simp; done) | (simp; omega))))))) hl).mono ?_; rintro e w2 ⟨rfl, hb2⟩; rw [HP.out]; obtain ⟨hk2, hf2, hz2⟩ := bcellN (n := w.heap.size + 2) (by (try simp only [World.size_drew, World.size_alloc, World.size_setCell]); omega) hb2; have hz2_0 : w.heap.size < w2.heap.size := (by omega); have hz2_1 : w.heap.size + 1 < w2.heap.size := (by omega)))
      refine bodyPost_ret (v := .tuple #[.agg #[.slice pc l.length cc, .slice pf fr.length cf], .int .i64 6]) (by simp [results, Try.results15, go_sem, hk1, hz1_0, hz1_1, hk2, hz2_0, hz2_1]) rfl (RetS1.mk HN.out (Hv.out.call ?_) Hc.out ?_)
      all_goals (repeat (first | (with_reducible exact Below.refl _ _) | ((with_reducible refine below_alloc ?_ ?_ _); · (first | omega | (simp; done) | (simp; omega))) | ((with_reducible refine below_setCell ?_ ?_ _); · (first | omega | (simp; done) | (simp; omega))) | (with_reducible refine Below.drew ?_) | (with_reducible refine below_drewN ?_ _) | ((with_reducible refine below_call (by assumption) ?_ ?_); · (first | omega | (simp; done) | (simp; omega)))))
    · obtain ⟨k, hk⟩ : ∃ k : Nat, placeN l h = k := ⟨(placeN l h).toNat, by omega⟩
      have hkl : k < l.length := by omega
      have hkl' : (k : Int) < l.length := by omega
      obtain ⟨b, off, rfl, d0, d1, d2⟩ := Hp.out k hkl
      obtain ⟨g, hg⟩ : ∃ g, l[k].1 = g := ⟨_, rfl⟩
      rw [hg] at d0
      have HN : Hid (setN (l, fr) h v = ((l.set k (g, true, v), fr), 0)) := setN_yes (st := (l, fr)) hc hk hkl hg
      have HP := Lib.hid hk
      have HD := Lib.hid d0
      clear hc hpl hfb hk hg d0 d1 d2
      go_enter Try.func15, Try.ntmps15
      go_wp2_with (first | (go_at_call 23; refine (refcheck_any _ _ (l, fr) _ (by exact Hv.out.call (by (repeat (first | (with_reducible exact Below.refl _ _) | ((with_reducible refine below_alloc ?_ ?_ _); · (first | omega | (simp; done) | (simp; omega))) | ((with_reducible refine below_setCell ?_ ?_ _); · (first | omega | (simp; done) | (simp; omega))) | (with_reducible refine Below.drew ?_) | (with_reducible refine below_drewN ?_ _) | ((with_reducible refine below_call (by assumption) ?_ ?_); · (first | omega | (simp; done) | (simp; omega))))))) hl hf).mono ?_; rintro e w1 ⟨rfl, hb1⟩; rw [HC.out]; obtain ⟨hk1, hf1, hz1⟩ := bcellN (n := w.heap.size + 2) (by (try simp only [World.size_drew, World.size_alloc, World.size_setCell]); omega) hb1; have hz1_0 : w.heap.size < w1.heap.size := (by omega); have hz1_1 : w.heap.size + 1 < w1.heap.size := (by omega)) | (go_at_call 38; refine (refplace_any _ _ (l, fr) h _ (by exact Hv.out.1.call (by (repeat (first | (with_reducible exact Below.refl _ _) | ((with_reducible refine below_alloc ?_ ?_ _); · (first | omega | (simp; done) | (simp; omega))) | ((with_reducible refine below_setCell ?_ ?_ _); · (first | omega | (simp; done) | (simp; omega))) | (with_reducible refine Below.drew ?_) | (with_reducible refine below_drewN ?_ _) | ((with_reducible refine below_call (by assumption) ?_ ?_); · (first | omega | (simp; done) | (simp; omega))))))) hl).mono ?_; rintro e w2 ⟨rfl, hb2⟩; rw [HP.out]; obtain ⟨hk2, hf2, hz2⟩ := bcellN (n := w.heap.size + 2) (by (try simp only [World.size_drew, World.size_alloc, World.size_setCell]); omega) hb2; have hz2_0 : w.heap.size < w2.heap.size := (by omega); have hz2_1 : w.heap.size + 1 < w2.heap.size := (by omega); have hB2 : Below w.heap.size w w2 := (by (repeat (first | (with_reducible exact Below.refl _ _) | ((with_reducible refine below_alloc ?_ ?_ _); · (first | omega | (simp; done) | (simp; omega))) | ((with_reducible refine below_setCell ?_ ?_ _); · (first | omega | (simp; done) | (simp; omega))) | (with_reducible refine Below.drew ?_) | (with_reducible refine below_drewN ?_ _) | ((with_reducible refine below_call (by assumption) ?_ ?_); · (first | omega | (simp; done) | (simp; omega)))))); have c0 := (hB2.cell (p := ⟨b, off + k * 3, none⟩) (World.block_lt_of_cell? _ _ HD.out)).trans HD.out))
      go_region_with (go_at_call 33; refine (refwith_any _ _ l k (g, true, v) _ (by exact Hv.out.1.call (by (repeat (first | (with_reducible exact Below.refl _ _) | ((with_reducible refine below_alloc ?_ ?_ _); · (first | omega | (simp; done) | (simp; omega))) | ((with_reducible refine below_setCell ?_ ?_ _); · (first | omega | (simp; done) | (simp; omega))) | (with_reducible refine Below.drew ?_) | (with_reducible refine below_drewN ?_ _) | ((with_reducible refine below_call (by assumption) ?_ ?_); · (first | omega | (simp; done) | (simp; omega))))))) ⟨_, _, _, rfl⟩ hkl (by omega)).mono ?_; rintro e w4 ⟨vc', rfl, hC, hb4⟩; obtain ⟨hk4, hf4, hz4⟩ := bcellN (n := w.heap.size + 2) (by (try simp only [World.size_drew, World.size_alloc, World.size_setCell]); omega) hb4; have hz4_0 : w.heap.size < w4.heap.size := (by omega); have hz4_1 : w.heap.size + 1 < w4.heap.size := (by omega); obtain ⟨p4, c4, rfl⟩ := hC.shape; have HC4 := Lib.hid hC; clear hC)
      all_goals
        go_wp2
        refine bodyPost_ret (v := .tuple #[.agg #[.slice p4 (l.set k (g, true, v)).length c4, .slice pf fr.length cf], .int .i64 0]) (by simp [results, Try.results15, go_sem, hk1, hz1_0, hz1_1, hk2, hz2_0, hz2_1, hk4, hz4_0, hz4_1]) rfl (RetS1.mk HN.out ⟨OwnC.reads (((HC4.out.mono (B' := w.heap.size + 2) (by (try simp only [World.size_setCell, World.size_drew, World.size_alloc]); omega)).below _ _ (by show w.heap.size + 1 < _; omega)).below _ _ (by show w.heap.size + 1 < _; omega)), Hv.out.2.call ?_⟩ Hc.out ?_)
        all_goals (repeat (first | (with_reducible exact Below.refl _ _) | ((with_reducible refine below_alloc ?_ ?_ _); · (first | omega | (simp; done) | (simp; omega))) | ((with_reducible refine below_setCell ?_ ?_ _); · (first | omega | (simp; done) | (simp; omega))) | (with_reducible refine Below.drew ?_) | (with_reducible refine below_drewN ?_ _) | ((with_reducible refine below_call (by assumption) ?_ ?_); · (first | omega | (simp; done) | (simp; omega)))))
  · have hc1 : (chkN (l, fr) != 0) = true := by simpa using hc
    have HN : Hid (setN (l, fr) h v = ((l, fr), chkN (l, fr))) := Lib.hid (by unfold setN; rw [if_pos hc])
    clear hc
    go_enter Try.func15, Try.ntmps15
    go_wp2_with (first | (go_at_call 23; refine (refcheck_any _ _ (l, fr) _ (by exact Hv.out.call (by (repeat (first | (with_reducible exact Below.refl _ _) | ((with_reducible refine below_alloc ?_ ?_ _); · (first | omega | (simp; done) | (simp; omega))) | ((with_reducible refine below_setCell ?_ ?_ _); · (first | omega | (simp; done) | (simp; omega))) | (with_reducible refine Below.drew ?_) | (with_reducible refine below_drewN ?_ _) | ((with_reducible refine below_call (by assumption) ?_ ?_); · (first | omega | (simp; done) | (simp; omega))))))) hl hf).mono ?_; rintro e w1 ⟨rfl, hb1⟩; obtain ⟨hk1, hf1, hz1⟩ := bcellN (n := w.heap.size + 2) (by (try simp only [World.size_drew, World.size_alloc, World.size_setCell]); omega) hb1; have hz1_0 : w.heap.size < w1.heap.size := (by omega); have hz1_1 : w.heap.size + 1 < w1.heap.size := (by omega)) | (go_at_call 38; refine (refplace_any _ _ (l, fr) h _ (by exact Hv.out.1.call (by (repeat (first | (with_reducible exact Below.refl _ _) | ((with_reducible refine below_alloc ?_ ?_ _); · (first | omega | (simp; done) | (simp; omega))) | ((with_reducible refine below_setCell ?_ ?_ _); · (first | omega | (simp; done) | (simp; omega))) | (with_reducible refine Below.drew ?_) | (with_reducible refine below_drewN ?_ _) | ((with_reducible refine below_call (by assumption) ?_ ?_); · (first | omega | (simp; done) | (simp; omega))))))) hl).mono ?_; rintro e w2 ⟨rfl, hb2⟩; obtain ⟨hk2, hf2, hz2⟩ := bcellN (n := w.heap.size + 2) (by (try simp only [World.size_drew, World.size_alloc, World.size_setCell]); omega) hb2; have hz2_0 : w.heap.size < w2.heap.size := (by omega); have hz2_1 : w.heap.size + 1 < w2.heap.size := (by omega)))
    refine bodyPost_ret (v := .tuple #[.agg #[.slice pc l.length cc, .slice pf fr.length cf], .int .i64 (chkN (l, fr))]) (by simp [results, Try.results15, go_sem, hk1, hz1_0, hz1_1, hk2, hz2_0, hz2_1]) rfl (RetS1.mk HN.out (Hv.out.call ?_) Hc.out ?_)
    all_goals (repeat (first | (with_reducible exact Below.refl _ _) | ((with_reducible refine below_alloc ?_ ?_ _); · (first | omega | (simp; done) | (simp; omega))) | ((with_reducible refine below_setCell ?_ ?_ _); · (first | omega | (simp; done) | (simp; omega))) | (with_reducible refine Below.drew ?_) | (with_reducible refine below_drewN ?_ _) | ((with_reducible refine below_call (by assumption) ?_ ?_); · (first | omega | (simp; done) | (simp; omega)))))
end Go.Proofs.Ytmnlpmfkoammhaa
