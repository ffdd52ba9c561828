/- Contracts of layer 3, the program's: Take. -/
import Derived.Test.YtmnlpmfkoammhaaP4J
import Derived.Test.YtmnlpmfkoammhaaP4G
namespace Go.Proofs.Ytmnlpmfkoammhaa
open Go.RowKit
set_option linter.unusedVariables false
set_option linter.unusedSimpArgs false

set_option maxRecDepth 100000 in
set_option maxHeartbeats 4000000 in
theorem take_any (vc vf : Value) (st : St) (v : Int) (w : World) (hv : IsSt w vc vf st) (hcap : CapOk vf) (hl : st.1.length ≤ 1048576) (hf : st.2.length ≤ 1048576) :
    Calls Try.prog 10 #[.agg #[vc, vf], .int .i64 v] w (RetS2 w (takeN st v)) := by
  obtain ⟨l, fr⟩ := st
  replace hl : l.length ≤ 1048576 := hl
  replace hf : fr.length ≤ 1048576 := hf
  have hv0 := hv
  obtain ⟨⟨pc, cc, rfl, hp⟩, ⟨pf, cf, rfl, hq⟩⟩ := hv
  have Hp := Lib.hid hp
  have Hv := Lib.hid hv0
  have Hc := Lib.hid hcap
  clear hp hq hv0 hcap
  have ck := fun (W : World) (hb : Below w.heap.size w W) => check_any (.slice pc l.length cc) (.slice pf fr.length cf) (l, fr) W (Hv.out.call hb) hl hf
  by_cases hc : chkN (l, fr) = 0
  · rw [hc] at ck
    obtain ⟨hl1, hl2, -, -, hfb⟩ := chk_parts hc
    replace hl1 : 1 ≤ l.length := hl1
    replace hl2 : l.length ≤ 64 := hl2
    by_cases hn : fr.length = 0
    · have HN : Hid (takeN (l, fr) v = ((l, fr), 0, 7)) := Lib.hid (by unfold takeN; rw [if_neg (fun h => h hc), if_pos hn])
      have hn' : ((fr.length : Int) == 0) = true := by simp only [hn]; rfl
      clear hc hn hfb
      go_enter Try.func10, Try.ntmps10
      go_wp2_with (go_at_call 22; refine (ck _ (by (repeat (first | (with_reducible exact Below.refl _ _) | ((with_reducible refine below_alloc ?_ ?_ _); · (first | omega | (simp; done) | (simp; omega))) | ((with_reducible refine below_setCell ?_ ?_ _); · (first | omega | (simp; done) | (simp; omega))) | (with_reducible refine Below.drew ?_) | (with_reducible refine below_drewN ?_ _) | ((with_reducible refine below_call (by assumption) ?_ ?_); · (first | omega | (simp; done) | (simp; omega))))))).mono ?_; rintro e w1 ⟨rfl, hb1⟩; obtain ⟨hk1, hf1, hz1⟩ := bcellN (n := w.heap.size + 2) (by (try simp only [World.size_drew, World.size_alloc, World.size_setCell]); omega) hb1; have hz1_0 : w.heap.size < w1.heap.size := (by omega); have hz1_1 : w.heap.size + 1 < w1.heap.size := (by omega))
      refine bodyPost_ret (v := .tuple #[.agg #[.slice pc l.length cc, .slice pf fr.length cf], .int .i64 0, .int .i64 7]) (by simp [results, Try.results10, go_sem, hk1, hz1_0, hz1_1]) rfl (RetS2.mk HN.out (Hv.out.call ?_) Hc.out ?_)
      all_goals (repeat (first | (with_reducible exact Below.refl _ _) | ((with_reducible refine below_alloc ?_ ?_ _); · (first | omega | (simp; done) | (simp; omega))) | ((with_reducible refine below_setCell ?_ ?_ _); · (first | omega | (simp; done) | (simp; omega))) | (with_reducible refine Below.drew ?_) | (with_reducible refine below_drewN ?_ _) | ((with_reducible refine below_call (by assumption) ?_ ?_); · (first | omega | (simp; done) | (simp; omega)))))
    · obtain ⟨m, hm⟩ : ∃ m, fr.length = m + 1 := ⟨fr.length - 1, by omega⟩
      obtain ⟨k, hk, hkl⟩ := pl_nat (free_pl hfb (p := fr[m]) (List.getElem_mem _))
      replace hkl : k < l.length := hkl
      have to := fun (W : World) (hb : Below w.heap.size w W) => takenoff_any (.slice pf fr.length cf) fr m k W (Hv.out.2.call hb) Hc.out hm hk hf
      obtain ⟨b, off, rfl, d0, d1, d2⟩ := Hp.out k hkl
      obtain ⟨g, hg⟩ : ∃ g, l[k].1 = g := ⟨_, rfl⟩
      rw [hg] at d0
      have HN : Hid (takeN (l, fr) v = ((l.set k (g, true, v), fr.take m), wrap64 (wrap64 (64 * g) + k), 0)) := takeN_yes (st := (l, fr)) (v := v) hc hm hk hkl hg
      have HD := Lib.hid d0
      have hkl' : (k : Int) < l.length := by omega
      have hn' : ((fr.length : Int) == 0) = false := beq_eq_false_iff_ne.2 (by omega)
      clear hc hn hfb hk d0 d1 d2 hg hm
      go_enter Try.func10, Try.ntmps10
      go_wp2_with (first | (go_at_call 22; refine (ck _ (by (repeat (first | (with_reducible exact Below.refl _ _) | ((with_reducible refine below_alloc ?_ ?_ _); · (first | omega | (simp; done) | (simp; omega))) | ((with_reducible refine below_setCell ?_ ?_ _); · (first | omega | (simp; done) | (simp; omega))) | (with_reducible refine Below.drew ?_) | (with_reducible refine below_drewN ?_ _) | ((with_reducible refine below_call (by assumption) ?_ ?_); · (first | omega | (simp; done) | (simp; omega))))))).mono ?_; rintro e w1 ⟨rfl, hb1⟩; obtain ⟨hk1, hf1, hz1⟩ := bcellN (n := w.heap.size + 2) (by (try simp only [World.size_drew, World.size_alloc, World.size_setCell]); omega) hb1; have hz1_0 : w.heap.size < w1.heap.size := (by omega); have hz1_1 : w.heap.size + 1 < w1.heap.size := (by omega); have hB1 : Below w.heap.size w w1 := (by (repeat (first | (with_reducible exact Below.refl _ _) | ((with_reducible refine below_alloc ?_ ?_ _); · (first | omega | (simp; done) | (simp; omega))) | ((with_reducible refine below_setCell ?_ ?_ _); · (first | omega | (simp; done) | (simp; omega))) | (with_reducible refine Below.drew ?_) | (with_reducible refine below_drewN ?_ _) | ((with_reducible refine below_call (by assumption) ?_ ?_); · (first | omega | (simp; done) | (simp; omega))))))) | (go_at_call 30; refine (to _ hB1).mono ?_; rintro e w2 ⟨v', rfl, hnew, hb2⟩; obtain ⟨hk2, hf2, hz2⟩ := bcellN (n := w.heap.size + 2) (by (try simp only [World.size_drew, World.size_alloc, World.size_setCell]); omega) hb2; have hz2_0 : w.heap.size < w2.heap.size := (by omega); have hz2_1 : w.heap.size + 1 < w2.heap.size := (by omega); have hs2 := hb2.size; have hB2 : Below w.heap.size w w2 := hB1.trans (hb2.mono (by omega)); have c0 := (hB2.cell (p := ⟨b, off + k * 3, none⟩) (World.block_lt_of_cell? _ _ HD.out)).trans HD.out; obtain ⟨q2, n2, cap2, rfl, hq2, -⟩ := hnew.capOk; have HW := Lib.hid hnew; clear hnew))
      go_region_with (first | (go_at_call 31; refine (with_any _ l k (g, true, v) _ (by exact Hv.out.1.call (by (repeat (first | (with_reducible exact Below.refl _ _) | ((with_reducible refine below_alloc ?_ ?_ _); · (first | omega | (simp; done) | (simp; omega))) | ((with_reducible refine below_setCell ?_ ?_ _); · (first | omega | (simp; done) | (simp; omega))) | (with_reducible refine Below.drew ?_) | (with_reducible refine below_drewN ?_ _) | ((with_reducible refine below_call (by assumption) ?_ ?_); · (first | omega | (simp; done) | (simp; omega))))))) hkl (by omega)).mono ?_; rintro e w4 ⟨vc', rfl, hC, hb4⟩; obtain ⟨hk4, hf4, hz4⟩ := bcellN (n := w.heap.size + 2) (by (try simp only [World.size_drew, World.size_alloc, World.size_setCell]); omega) hb4; have hz4_0 : w.heap.size < w4.heap.size := (by omega); have hz4_1 : w.heap.size + 1 < w4.heap.size := (by omega); obtain ⟨hk4w2, hf4w2, hz4w2⟩ := bcellAt (b := w2.heap.size) (by (try simp only [World.size_drew, World.size_alloc, World.size_setCell]); omega) hb4; have hs4 := hb4.size; (try simp only [World.size_drew, World.size_alloc, World.size_setCell] at hs4); obtain ⟨p4, c4, rfl⟩ := hC.shape; have HC4 := Lib.hid hC; clear hC) | (go_at_call 32; refine (hand_any g k _).mono ?_; rintro e w5 ⟨rfl, hb5⟩; obtain ⟨hk5, hf5, hz5⟩ := bcellN (n := w.heap.size + 2) (by (try simp only [World.size_drew, World.size_alloc, World.size_setCell]); omega) hb5; have hz5_0 : w.heap.size < w5.heap.size := (by omega); have hz5_1 : w.heap.size + 1 < w5.heap.size := (by omega); have hs5 := hb5.size; have hb45 : Below w4.heap.size w4 w5 := (by (repeat (first | (with_reducible exact Below.refl _ _) | ((with_reducible refine below_alloc ?_ ?_ _); · (first | omega | (simp; done) | (simp; omega))) | ((with_reducible refine below_setCell ?_ ?_ _); · (first | omega | (simp; done) | (simp; omega))) | (with_reducible refine Below.drew ?_) | (with_reducible refine below_drewN ?_ _) | ((with_reducible refine below_call (by assumption) ?_ ?_); · (first | omega | (simp; done) | (simp; omega))))))))
      all_goals
        have hC4 := HC4.out
        rw [List.length_set] at hC4
        have hb25 : Below w2.heap.size w2 w5 := by (repeat (first | (with_reducible exact Below.refl _ _) | ((with_reducible refine below_alloc ?_ ?_ _); · (first | omega | (simp; done) | (simp; omega))) | ((with_reducible refine below_setCell ?_ ?_ _); · (first | omega | (simp; done) | (simp; omega))) | (with_reducible refine Below.drew ?_) | (with_reducible refine below_drewN ?_ _) | ((with_reducible refine below_call (by assumption) ?_ ?_); · (first | omega | (simp; done) | (simp; omega)))))
        have hI2 := HW.out.call hb25
        have hcp := HW.out.capOk
        go_wp2
        refine bodyPost_ret (v := .tuple #[.agg #[.slice p4 l.length c4, .slice q2 n2 cap2], .int .i64 (wrap64 (wrap64 (64 * g) + k)), .int .i64 0]) (by simp [results, Try.results10, go_sem, hk1, hz1_0, hz1_1, hk2, hz2_0, hz2_1, hk4, hz4_0, hz4_1, hk5, hz5_0, hz5_1]) rfl (RetS2.mk HN.out ⟨(((hC4.call hb5).below _ _ (by show w.heap.size + 1 < _; (try simp only [World.size_drew, World.size_alloc, World.size_setCell]); omega)).below _ _ (by show w.heap.size + 1 < _; (try simp only [World.size_drew, World.size_alloc, World.size_setCell]); omega)).reads, ((hI2.below _ _ (by show w.heap.size + 1 < _; omega)).below _ _ (by show w.heap.size + 1 < _; omega)).reads⟩ hcp ?_)
        (repeat (first | (with_reducible exact Below.refl _ _) | ((with_reducible refine below_alloc ?_ ?_ _); · (first | omega | (simp; done) | (simp; omega))) | ((with_reducible refine below_setCell ?_ ?_ _); · (first | omega | (simp; done) | (simp; omega))) | (with_reducible refine Below.drew ?_) | (with_reducible refine below_drewN ?_ _) | ((with_reducible refine below_call (by assumption) ?_ ?_); · (first | omega | (simp; done) | (simp; omega)))))
  · have hc1 : (chkN (l, fr) != 0) = true := by simpa using hc
    have HN : Hid (takeN (l, fr) v = ((l, fr), 0, chkN (l, fr))) := Lib.hid (by unfold takeN; rw [if_pos hc])
    clear hc
    go_enter Try.func10, Try.ntmps10
    go_wp2_with (go_at_call 22; refine (ck _ (by (repeat (first | (with_reducible exact Below.refl _ _) | ((with_reducible refine below_alloc ?_ ?_ _); · (first | omega | (simp; done) | (simp; omega))) | ((with_reducible refine below_setCell ?_ ?_ _); · (first | omega | (simp; done) | (simp; omega))) | (with_reducible refine Below.drew ?_) | (with_reducible refine below_drewN ?_ _) | ((with_reducible refine below_call (by assumption) ?_ ?_); · (first | omega | (simp; done) | (simp; omega))))))).mono ?_; rintro e w1 ⟨rfl, hb1⟩; obtain ⟨hk1, hf1, hz1⟩ := bcellN (n := w.heap.size + 2) (by (try simp only [World.size_drew, World.size_alloc, World.size_setCell]); omega) hb1; have hz1_0 : w.heap.size < w1.heap.size := (by omega); have hz1_1 : w.heap.size + 1 < w1.heap.size := (by omega))
    refine bodyPost_ret (v := .tuple #[.agg #[.slice pc l.length cc, .slice pf fr.length cf], .int .i64 0, .int .i64 (chkN (l, fr))]) (by simp [results, Try.results10, go_sem, hk1, hz1_0, hz1_1]) rfl (RetS2.mk HN.out (Hv.out.call ?_) Hc.out ?_)
    all_goals (repeat (first | (with_reducible exact Below.refl _ _) | ((with_reducible refine below_alloc ?_ ?_ _); · (first | omega | (simp; done) | (simp; omega))) | ((with_reducible refine below_setCell ?_ ?_ _); · (first | omega | (simp; done) | (simp; omega))) | (with_reducible refine Below.drew ?_) | (with_reducible refine below_drewN ?_ _) | ((with_reducible refine below_call (by assumption) ?_ ?_); · (first | omega | (simp; done) | (simp; omega)))))
end Go.Proofs.Ytmnlpmfkoammhaa
