/- Contracts of layer 3, the program's: Set. -/
import Derived.Test.YtmnlpmfkoammhaaP4J
import Derived.Test.YtmnlpmfkoammhaaP4G
import Derived.Test.YtmnlpmfkoammhaaP3J
namespace Go.Proofs.Ytmnlpmfkoammhaa
open Go.RowKit
set_option linter.unusedVariables false
set_option linter.unusedSimpArgs false

theorem live_at {st : St} {h : Int} {k : Nat} (hp : placeN st.1 h = k) (hk : k < st.1.length) : st.1[k].2.1 = true := by
  rcases placeF_spec st.1 h st.1 0 rfl (Nat.zero_le _) with ⟨e, -⟩ | ⟨q, g1, -, g3, g4⟩
  · unfold placeN at hp; omega
  · unfold placeN at hp
    obtain rfl : q = k := by omega
    unfold hasH at g4
    rw [celAt_lt _ _ hk] at g4
    simp only [Bool.and_eq_true] at g4
    exact g4.1

set_option maxRecDepth 100000 in
set_option maxHeartbeats 4000000 in
theorem set_any (vc vf : Value) (st : St) (h v : Int) (w : World) (hv : IsSt w vc vf st) (hcap : CapOk vf) (hl : st.1.length ≤ 1048576) (hf : st.2.length ≤ 1048576) :
    Calls Try.prog 14 #[.agg #[vc, vf], .int .i64 h, .int .i64 v] w (RetS1 w (setN st h v)) := by
  obtain ⟨l, fr⟩ := st
  replace hl : l.length ≤ 1048576 := hl
  replace hf : fr.length ≤ 1048576 := hf
  have hv0 := hv
  obtain ⟨⟨pc, cc, rfl, hp⟩, ⟨pf, cf, rfl, hq⟩⟩ := hv
  have Hp := Lib.hid hp
  have Hv := Lib.hid hv0
  have Hc := Lib.hid hcap
  clear hp hq hv0 hcap
  have fd := fun (W : World) (hb : Below w.heap.size w W) => find_any (.slice pc l.length cc) (.slice pf fr.length cf) (l, fr) h W (Hv.out.call hb) hl hf
  by_cases hc : chkN (l, fr) = 0
  · obtain ⟨hl1, hl2, -, -, hfb⟩ := chk_parts hc
    replace hl2 : l.length ≤ 64 := hl2
    rcases placeN_bd l h with hpl | hpl
    · have HN : Hid (setN (l, fr) h v = ((l, fr), 6)) := Lib.hid (by unfold setN; rw [if_neg (fun h => h hc), if_pos (by show placeN l h < 0; omega)])
      rw [findN_no2 (st := (l, fr)) hc hpl] at fd
      clear hc hpl hfb
      go_enter Try.func14, Try.ntmps14
      go_wp2_with (go_at_call 34; refine (fd _ (by (repeat (first | (with_reducible exact Below.refl _ _) | ((with_reducible refine below_alloc ?_ ?_ _); · (first | omega | (simp; done) | (simp; omega))) | ((with_reducible refine below_setCell ?_ ?_ _); · (first | omega | (simp; done) | (simp; omega))) | (with_reducible refine Below.drew ?_) | (with_reducible refine below_drewN ?_ _) | ((with_reducible refine below_call (by assumption) ?_ ?_); · (first | omega | (simp; done) | (simp; omega))))))).mono ?_; rintro e w1 ⟨rfl, hb1⟩; obtain ⟨hk1, hf1, hz1⟩ := bcellN (n := w.heap.size + 2) (by (try simp only [World.size_drew, World.size_alloc, World.size_setCell]); omega) hb1; have hz1_0 : w.heap.size < w1.heap.size := (by omega); have hz1_1 : w.heap.size + 1 < w1.heap.size := (by omega))
      refine bodyPost_ret (v := .tuple #[.agg #[.slice pc l.length cc, .slice pf fr.length cf], .int .i64 6]) (by simp [results, Try.results14, go_sem, hk1, hz1_0, hz1_1]) rfl (RetS1.mk HN.out (Hv.out.call ?_) Hc.out ?_)
      all_goals (repeat (first | (with_reducible exact Below.refl _ _) | ((with_reducible refine below_alloc ?_ ?_ _); · (first | omega | (simp; done) | (simp; omega))) | ((with_reducible refine below_setCell ?_ ?_ _); · (first | omega | (simp; done) | (simp; omega))) | (with_reducible refine Below.drew ?_) | (with_reducible refine below_drewN ?_ _) | ((with_reducible refine below_call (by assumption) ?_ ?_); · (first | omega | (simp; done) | (simp; omega)))))
    · obtain ⟨k, hk⟩ : ∃ k : Nat, placeN l h = k := ⟨(placeN l h).toNat, by omega⟩
      have hkl : k < l.length := by omega
      have hkl' : (k : Int) < l.length := by omega
      rw [findN_yes (st := (l, fr)) hc hk] at fd
      obtain ⟨b, off, rfl, d0, d1, d2⟩ := Hp.out k hkl
      obtain ⟨g, hg⟩ : ∃ g, l[k].1 = g := ⟨_, rfl⟩
      have hlv := live_at (st := (l, fr)) hk hkl
      replace hlv : l[k].2.1 = true := hlv
      obtain ⟨u, hu⟩ : ∃ u, l[k].2.2 = u := ⟨_, rfl⟩
      rw [hg] at d0
      rw [hlv] at d1
      rw [hu] at d2
      have HN : Hid (setN (l, fr) h v = ((l.set k (g, true, v), fr), 0)) := setN_yes (st := (l, fr)) hc hk hkl hg
      have HD := Lib.hid (And.intro d0 (And.intro d1 d2))
      clear hc hpl hfb hk hg d0 d1 d2 hlv hu
      have cl := fun (W : World) (hb : Below w.heap.size w W) => clonei_any (.slice pf fr.length cf) fr W (Hv.out.2.call hb) Hc.out hf
      go_enter Try.func14, Try.ntmps14
      go_wp2_with (go_at_call 34; refine (fd _ (by (repeat (first | (with_reducible exact Below.refl _ _) | ((with_reducible refine below_alloc ?_ ?_ _); · (first | omega | (simp; done) | (simp; omega))) | ((with_reducible refine below_setCell ?_ ?_ _); · (first | omega | (simp; done) | (simp; omega))) | (with_reducible refine Below.drew ?_) | (with_reducible refine below_drewN ?_ _) | ((with_reducible refine below_call (by assumption) ?_ ?_); · (first | omega | (simp; done) | (simp; omega))))))).mono ?_; rintro e w1 ⟨rfl, hb1⟩; obtain ⟨hk1, hf1, hz1⟩ := bcellN (n := w.heap.size + 2) (by (try simp only [World.size_drew, World.size_alloc, World.size_setCell]); omega) hb1; have hz1_0 : w.heap.size < w1.heap.size := (by omega); have hz1_1 : w.heap.size + 1 < w1.heap.size := (by omega); have hB1 : Below w.heap.size w w1 := (by (repeat (first | (with_reducible exact Below.refl _ _) | ((with_reducible refine below_alloc ?_ ?_ _); · (first | omega | (simp; done) | (simp; omega))) | ((with_reducible refine below_setCell ?_ ?_ _); · (first | omega | (simp; done) | (simp; omega))) | (with_reducible refine Below.drew ?_) | (with_reducible refine below_drewN ?_ _) | ((with_reducible refine below_call (by assumption) ?_ ?_); · (first | omega | (simp; done) | (simp; omega)))))); have c0 := (hB1.cell (p := ⟨b, off + k * 3, none⟩) (World.block_lt_of_cell? _ _ HD.out.1)).trans HD.out.1; have c1 := (hB1.cell (p := ⟨b, off + k * 3 + 1, none⟩) (World.block_lt_of_cell? _ _ HD.out.2.1)).trans HD.out.2.1; have c2 := (hB1.cell (p := ⟨b, off + k * 3 + 2, none⟩) (World.block_lt_of_cell? _ _ HD.out.2.2)).trans HD.out.2.2; have hbw : b < w1.heap.size := World.block_lt_of_cell? _ _ c0)
      go_region_with (first | (go_at_call 31; refine (with_any _ l k (g, true, v) _ (by exact Hv.out.1.call (by (repeat (first | (with_reducible exact Below.refl _ _) | ((with_reducible refine below_alloc ?_ ?_ _); · (first | omega | (simp; done) | (simp; omega))) | ((with_reducible refine below_setCell ?_ ?_ _); · (first | omega | (simp; done) | (simp; omega))) | (with_reducible refine Below.drew ?_) | (with_reducible refine below_drewN ?_ _) | ((with_reducible refine below_call (by assumption) ?_ ?_); · (first | omega | (simp; done) | (simp; omega))))))) hkl (by omega)).mono ?_; rintro e w4 ⟨vc', rfl, hC, hb4⟩; obtain ⟨hk4, hf4, hz4⟩ := bcellN (n := w.heap.size + 2) (by (try simp only [World.size_drew, World.size_alloc, World.size_setCell]); omega) hb4; have hz4_0 : w.heap.size < w4.heap.size := (by omega); have hz4_1 : w.heap.size + 1 < w4.heap.size := (by omega); have hs4 := hb4.size; (try simp only [World.size_drew, World.size_alloc, World.size_setCell] at hs4); obtain ⟨p4, c4, rfl⟩ := hC.shape; have HC4 := Lib.hid hC; clear hC) | (go_at_call 35; refine (cl _ (by (repeat (first | (with_reducible exact Below.refl _ _) | ((with_reducible refine below_alloc ?_ ?_ _); · (first | omega | (simp; done) | (simp; omega))) | ((with_reducible refine below_setCell ?_ ?_ _); · (first | omega | (simp; done) | (simp; omega))) | (with_reducible refine Below.drew ?_) | (with_reducible refine below_drewN ?_ _) | ((with_reducible refine below_call (by assumption) ?_ ?_); · (first | omega | (simp; done) | (simp; omega))))))).mono ?_; rintro e w5 ⟨v5, rfl, hO5, hb5⟩; obtain ⟨hk5, hf5, hz5⟩ := bcellN (n := w.heap.size + 2) (by (try simp only [World.size_drew, World.size_alloc, World.size_setCell]); omega) hb5; have hz5_0 : w.heap.size < w5.heap.size := (by omega); have hz5_1 : w.heap.size + 1 < w5.heap.size := (by omega); have hs5 := hb5.size; obtain ⟨q5, c5, rfl⟩ := row_shape3 hO5; have HO5 := Lib.hid hO5; clear hO5))
      all_goals
        have hC4 := HC4.out
        rw [List.length_set] at hC4
        have hI5 := HO5.out
        have hcp := hI5.capOk
        go_wp2
        refine bodyPost_ret (v := .tuple #[.agg #[.slice p4 l.length c4, .slice q5 fr.length c5], .int .i64 0]) (by simp [results, Try.results14, go_sem, hk1, hz1_0, hz1_1, hk4, hz4_0, hz4_1, hk5, hz5_0, hz5_1]) rfl (RetS1.mk HN.out ⟨(((hC4.call hb5).below _ _ (by show w.heap.size + 1 < _; (try simp only [World.size_drew, World.size_alloc, World.size_setCell]); omega)).below _ _ (by show w.heap.size + 1 < _; (try simp only [World.size_drew, World.size_alloc, World.size_setCell]); omega)).reads, ((hI5.below _ _ (by show w.heap.size + 1 < _; omega)).below _ _ (by show w.heap.size + 1 < _; omega)).reads⟩ hcp ?_)
        (repeat (first | (with_reducible exact Below.refl _ _) | ((with_reducible refine below_alloc ?_ ?_ _); · (first | omega | (simp; done) | (simp; omega))) | ((with_reducible refine below_setCell ?_ ?_ _); · (first | omega | (simp; done) | (simp; omega))) | (with_reducible refine Below.drew ?_) | (with_reducible refine below_drewN ?_ _) | ((with_reducible refine below_call (by assumption) ?_ ?_); · (first | omega | (simp; done) | (simp; omega)))))
  · have hc1 : (chkN (l, fr) != 0) = true := by simpa using hc
    rw [findN_no1 (st := (l, fr)) hc] at fd
    have HN : Hid (setN (l, fr) h v = ((l, fr), chkN (l, fr))) := Lib.hid (by unfold setN; rw [if_pos hc])
    clear hc
    go_enter Try.func14, Try.ntmps14
    go_wp2_with (go_at_call 34; refine (fd _ (by (repeat (first | (with_reducible exact Below.refl _ _) | ((with_reducible refine below_alloc ?_ ?_ _); · (first | omega | (simp; done) | (simp; omega))) | ((with_reducible refine below_setCell ?_ ?_ _); · (first | omega | (simp; done) | (simp; omega))) | (with_reducible refine Below.drew ?_) | (with_reducible refine below_drewN ?_ _) | ((with_reducible refine below_call (by assumption) ?_ ?_); · (first | omega | (simp; done) | (simp; omega))))))).mono ?_; rintro e w1 ⟨rfl, hb1⟩; obtain ⟨hk1, hf1, hz1⟩ := bcellN (n := w.heap.size + 2) (by (try simp only [World.size_drew, World.size_alloc, World.size_setCell]); omega) hb1; have hz1_0 : w.heap.size < w1.heap.size := (by omega); have hz1_1 : w.heap.size + 1 < w1.heap.size := (by omega))
    refine bodyPost_ret (v := .tuple #[.agg #[.slice pc l.length cc, .slice pf fr.length cf], .int .i64 (chkN (l, fr))]) (by simp [results, Try.results14, go_sem, hk1, hz1_0, hz1_1]) rfl (RetS1.mk HN.out (Hv.out.call ?_) Hc.out ?_)
    all_goals (repeat (first | (with_reducible exact Below.refl _ _) | ((with_reducible refine below_alloc ?_ ?_ _); · (first | omega | (simp; done) | (simp; omega))) | ((with_reducible refine below_setCell ?_ ?_ _); · (first | omega | (simp; done) | (simp; omega))) | (with_reducible refine Below.drew ?_) | (with_reducible refine below_drewN ?_ _) | ((with_reducible refine below_call (by assumption) ?_ ?_); · (first | omega | (simp; done) | (simp; omega)))))
end Go.Proofs.Ytmnlpmfkoammhaa
