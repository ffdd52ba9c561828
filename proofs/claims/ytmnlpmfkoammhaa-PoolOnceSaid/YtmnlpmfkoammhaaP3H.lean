/- Contracts of layer 3, the document's: Take. -/
import Derived.Test.YtmnlpmfkoammhaaP3G
namespace Go.Proofs.Ytmnlpmfkoammhaa
open Go.RowKit
set_option linter.unusedVariables false
set_option linter.unusedSimpArgs false

theorem chk_parts {st : St} (h : chkN st = 0) : 1 ≤ st.1.length ∧ st.1.length ≤ 64 ∧ st.1.any genBad = false ∧ st.1.any valBad = false ∧ freeB st = true := by
  unfold chkN at h
  split at h
  · omega
  · split at h
    · omega
    · split at h
      · omega
      · split at h
        · rename_i h1 h2 h3 h4
          exact ⟨by omega, by omega, by simpa using h2, by simpa using h3, h4⟩
        · omega
theorem free_pl {st : St} (h : freeB st = true) {p : Int} (hp : p ∈ st.2) : plB st.1 p = true := by
  unfold freeB at h
  rw [Bool.and_eq_true, Bool.and_eq_true, List.all_eq_true] at h
  exact h.1.1 p hp
theorem pl_nat {l : List Cel} {p : Int} (h : plB l p = true) : ∃ k : Nat, p = k ∧ k < l.length := by
  unfold plB at h
  simp only [Bool.and_eq_true, decide_eq_true_eq] at h
  exact ⟨p.toNat, by omega, by omega⟩
/-- the last free place -/
def lastP (l : List Int) : Nat := (l.getD (l.length - 1) 0).toNat
/-- what Take hands out -/
def takeN (st : St) (v : Int) : St × Int × Int :=
  if chkN st ≠ 0 then (st, 0, chkN st)
  else if st.2.length = 0 then (st, 0, 7)
  else ((st.1.set (lastP st.2) ((celAt st.1 (lastP st.2)).1, true, v), st.2.take (st.2.length - 1)), wrap64 (wrap64 (64 * (celAt st.1 (lastP st.2)).1) + lastP st.2), 0)
theorem rdI {w : World} {b off cap n : Nat} {l : List Int} (h : IsI w (.slice (some ⟨b, off, none⟩) n cap) l) {m : Nat} (j : Nat) (u : Value) (hu : ((l.take m).map (Value.int .i64))[j]? = some u) : w.cell? ⟨b, off + j, none⟩ = some u := by
  obtain ⟨p, cap', e, h⟩ := h
  simp only [Value.slice.injEq] at e
  obtain ⟨rfl, -, rfl⟩ := e
  have hj : j < ((l.take m).map (Value.int .i64)).length := (List.getElem?_eq_some_iff.1 hu).1
  rw [List.length_map, List.length_take] at hj
  obtain ⟨b', off', e, h0⟩ := h j (by omega)
  simp only [Option.some.injEq, Addr.mk.injEq, and_true] at e
  obtain ⟨rfl, rfl⟩ := e
  rw [List.getElem?_map, List.getElem?_take, if_pos (by omega), List.getElem?_eq_getElem (by omega)] at hu
  rw [← hu]; exact h0
theorem row_shape0 {w : World} {B n : Nat} {E : TypeId} {v : Value} {xs : List Value} (h : w.ownsRow B E 1 v n xs) : ∃ ao cap, v = .slice ao n cap := by
  rcases h.2 with ⟨hv, h0⟩ | ⟨g, cap, cur, hv, _⟩
  · exact ⟨none, 0, by rw [hv, h0]⟩
  · exact ⟨_, _, hv⟩
theorem takeN_yes {st : St} {v : Int} {m k : Nat} {g : Int} (h : chkN st = 0) (hm : st.2.length = m + 1) (hl : st.2[m]'(by omega) = (k : Int)) (hk : k < st.1.length) (hg : st.1[k].1 = g) :
    takeN st v = ((st.1.set k (g, true, v), st.2.take m), wrap64 (wrap64 (64 * g) + k), 0) := by
  have e : lastP st.2 = k := by
    unfold lastP
    rw [hm, Nat.add_sub_cancel, List.getD, List.getElem?_eq_getElem (by omega), Option.getD_some, hl, Int.toNat_natCast]
  unfold takeN
  rw [if_neg (by omega), if_neg (by omega), e, celAt_lt _ _ hk, hg, hm, Nat.add_sub_cancel]
/-- a call that hands back a state and two numbers -/
def RetS2 (w : World) (t : St × Int × Int) (e : Ending) (w' : World) : Prop :=
  ∃ vc vf, e = .returned (.tuple #[.agg #[vc, vf], .int .i64 t.2.1, .int .i64 t.2.2]) ∧ IsSt w' vc vf t.1 ∧ CapOk vf ∧ Below w.heap.size w w'
theorem RetS2.mk {w w' : World} {t : St × Int × Int} {vc vf : Value} {x y : Int} {st : St} (ht : t = (st, x, y)) (h : IsSt w' vc vf st) (hc : CapOk vf) (hb : Below w.heap.size w w') : RetS2 w t (.returned (.tuple #[.agg #[vc, vf], .int .i64 x, .int .i64 y])) w' := by
  subst ht; exact ⟨vc, vf, rfl, h, hc, hb⟩

set_option maxRecDepth 100000 in
set_option maxHeartbeats 4000000 in
theorem reftake_any (vc vf : Value) (st : St) (v : Int) (w : World) (hv : IsSt w vc vf st) (hcap : CapOk vf) (hl : st.1.length ≤ 1048576) (hf : st.2.length ≤ 1048576) :
    Calls Try.prog 11 #[.agg #[vc, vf], .int .i64 v] w (RetS2 w (takeN st v)) := by
  obtain ⟨i0, hi, hj0, hj1, hj2⟩ := info_parts info_int
  obtain ⟨l, fr⟩ := st
  replace hl : l.length ≤ 1048576 := hl
  replace hf : fr.length ≤ 1048576 := hf
  have hv0 := hv
  obtain ⟨⟨pc, cc, rfl, hp⟩, ⟨pf, cf, rfl, hq⟩⟩ := hv
  have Hp := Lib.hid hp
  have Hq := Lib.hid hq
  have Hv := Lib.hid hv0
  have Hc := Lib.hid hcap
  clear hp hq hv0 hcap
  by_cases hc : chkN (l, fr) = 0
  · have HC := Lib.hid hc
    obtain ⟨hl1, hl2, -, -, hfb⟩ := chk_parts hc
    replace hl1 : 1 ≤ l.length := hl1
    replace hl2 : l.length ≤ 64 := hl2
    by_cases hn : fr.length = 0
    · have HN : Hid (takeN (l, fr) v = ((l, fr), 0, 7)) := Lib.hid (by unfold takeN; rw [if_neg (fun h => h hc), if_pos hn])
      have hn' : ((fr.length : Int) == 0) = true := by simp only [hn]; rfl
      clear hc hn hfb
      go_enter Try.func11, Try.ntmps11
      go_wp2_with (go_at_call 23; refine (refcheck_any _ _ (l, fr) _ (by exact Hv.out.call (by (repeat (first | (with_reducible exact Below.refl _ _) | ((with_reducible refine below_alloc ?_ ?_ _); · (first | omega | (simp; done) | (simp; omega))) | ((with_reducible refine below_setCell ?_ ?_ _); · (first | omega | (simp; done) | (simp; omega))) | (with_reducible refine Below.drew ?_) | (with_reducible refine below_drewN ?_ _) | ((with_reducible refine below_call (by assumption) ?_ ?_); · (first | omega | (simp; done) | (simp; omega))))))) hl hf).mono ?_; rintro e w1 ⟨rfl, hb1⟩; rw [HC.out]; obtain ⟨hk1, hf1, hz1⟩ := bcellN (n := w.heap.size + 2) (by (try simp only [World.size_drew, World.size_alloc, World.size_setCell]); omega) hb1; have hz1_0 : w.heap.size < w1.heap.size := (by omega); have hz1_1 : w.heap.size + 1 < w1.heap.size := (by omega))
      refine bodyPost_ret (v := .tuple #[.agg #[.slice pc l.length cc, .slice pf fr.length cf], .int .i64 0, .int .i64 7]) (by simp [results, Try.results11, go_sem, hk1, hz1_0, hz1_1]) rfl (RetS2.mk HN.out (Hv.out.call ?_) Hc.out ?_)
      all_goals (repeat (first | (with_reducible exact Below.refl _ _) | ((with_reducible refine below_alloc ?_ ?_ _); · (first | omega | (simp; done) | (simp; omega))) | ((with_reducible refine below_setCell ?_ ?_ _); · (first | omega | (simp; done) | (simp; omega))) | (with_reducible refine Below.drew ?_) | (with_reducible refine below_drewN ?_ _) | ((with_reducible refine below_call (by assumption) ?_ ?_); · (first | omega | (simp; done) | (simp; omega)))))
    · obtain ⟨m, hm⟩ : ∃ m, fr.length = m + 1 := ⟨fr.length - 1, by omega⟩
      obtain ⟨k, hk, hkl⟩ := pl_nat (free_pl hfb (p := fr[m]) (List.getElem_mem _))
      replace hkl : k < l.length := hkl
      obtain ⟨b, off, rfl, d0, d1, d2⟩ := Hp.out k hkl
      obtain ⟨bf, of, rfl, q0⟩ := Hq.out m (by show m < fr.length; omega)
      rw [hk] at q0
      obtain ⟨g, hg⟩ : ∃ g, l[k].1 = g := ⟨_, rfl⟩
      rw [hg] at d0
      have HN : Hid (takeN (l, fr) v = ((l.set k (g, true, v), fr.take m), wrap64 (wrap64 (64 * g) + k), 0)) := takeN_yes (st := (l, fr)) (v := v) hc hm hk hkl hg
      have HD := Lib.hid (And.intro d0 q0)
      have HQ2 : Hid (IsI w (.slice (some ⟨bf, of, none⟩) fr.length cf) fr) := Lib.hid Hv.out.2
      have hcf : m ≤ cf := by
        obtain ⟨p, n, c, e, h, -, -⟩ := Hc.out
        simp only [Value.slice.injEq] at e
        omega
      have HM := Lib.hid hm
      have hkl' : (k : Int) < l.length := by omega
      clear hc hn hfb hk d0 d1 d2 q0 hg
      have hn' : ((fr.length : Int) == 0) = false := beq_eq_false_iff_ne.2 (by omega)
      have hm1 : (fr.length : Int) - 1 = m := by omega
      have hm2 : (m : Int) < fr.length := by omega
      have hm3 : (m : Int) ≤ 1048576 := by omega
      clear hm
      go_enter Try.func11, Try.ntmps11
      go_wp2_with (first | (go_at_call 23; refine (refcheck_any _ _ (l, fr) _ (by exact Hv.out.call (by (repeat (first | (with_reducible exact Below.refl _ _) | ((with_reducible refine below_alloc ?_ ?_ _); · (first | omega | (simp; done) | (simp; omega))) | ((with_reducible refine below_setCell ?_ ?_ _); · (first | omega | (simp; done) | (simp; omega))) | (with_reducible refine Below.drew ?_) | (with_reducible refine below_drewN ?_ _) | ((with_reducible refine below_call (by assumption) ?_ ?_); · (first | omega | (simp; done) | (simp; omega))))))) hl hf).mono ?_; rintro e w1 ⟨rfl, hb1⟩; rw [HC.out]; obtain ⟨hk1, hf1, hz1⟩ := bcellN (n := w.heap.size + 2) (by (try simp only [World.size_drew, World.size_alloc, World.size_setCell]); omega) hb1; have hz1_0 : w.heap.size < w1.heap.size := (by omega); have hz1_1 : w.heap.size + 1 < w1.heap.size := (by omega); have hB1 : Below w.heap.size w w1 := (by (repeat (first | (with_reducible exact Below.refl _ _) | ((with_reducible refine below_alloc ?_ ?_ _); · (first | omega | (simp; done) | (simp; omega))) | ((with_reducible refine below_setCell ?_ ?_ _); · (first | omega | (simp; done) | (simp; omega))) | (with_reducible refine Below.drew ?_) | (with_reducible refine below_drewN ?_ _) | ((with_reducible refine below_call (by assumption) ?_ ?_); · (first | omega | (simp; done) | (simp; omega)))))); have c0 := (hB1.cell (p := ⟨b, off + k * 3, none⟩) (World.block_lt_of_cell? _ _ HD.out.1)).trans HD.out.1; have c1 := (hB1.cell (p := ⟨bf, of + m, none⟩) (World.block_lt_of_cell? _ _ HD.out.2)).trans HD.out.2) | (at_builtin; refine wpList_append_own _ rfl _ _ 23 rfl (w.heap.size + 2) 3 i0 (.int .i64 0) 1 8 Try.underlying23 hi hj0 hj1 hj2 rfl (by decide) _ 0 [] rfl (World.ownsRow_nil _ _ _ _) ⟨bf, of, none⟩ m cf ((fr.take m).map (Value.int .i64)) rfl (by have := HM.out; simp; omega) (fun j u hu => by rw [Addr.add_lit]; exact rdI (HQ2.out.call hB1) j u hu) (by intro u hu; obtain ⟨_, _, rfl⟩ := List.mem_map.1 hu; rfl) (by unfold maxLen; omega) (by omega) (by omega) ?_; intro v' w3 hown' hgr _; have hb3 := (Below.refl w1.heap.size w1).grown hgr (Nat.le_refl _) (fun q hq => by cases hq); obtain ⟨hk3, hf3, hz3⟩ := bcellN (n := w.heap.size + 2) (by (try simp only [World.size_drew, World.size_alloc, World.size_setCell]); omega) hb3; have hz3_0 : w.heap.size < w3.heap.size := (by omega); have hz3_1 : w.heap.size + 1 < w3.heap.size := (by omega); obtain ⟨ao, cp, rfl⟩ := row_shape0 hown'; have HO3 := Lib.hid hown'; clear hown' hgr) | (go_at_call 33; refine (refwith_any _ _ l k (g, true, v) _ (by exact Hv.out.1.call (by (repeat (first | (with_reducible exact Below.refl _ _) | ((with_reducible refine below_alloc ?_ ?_ _); · (first | omega | (simp; done) | (simp; omega))) | ((with_reducible refine below_setCell ?_ ?_ _); · (first | omega | (simp; done) | (simp; omega))) | (with_reducible refine Below.drew ?_) | (with_reducible refine below_drewN ?_ _) | ((with_reducible refine below_call (by assumption) ?_ ?_); · (first | omega | (simp; done) | (simp; omega))))))) ⟨_, _, _, rfl⟩ hkl (by omega)).mono ?_; rintro e w4 ⟨vc', rfl, hC, hb4⟩; obtain ⟨hk4, hf4, hz4⟩ := bcellN (n := w.heap.size + 2) (by (try simp only [World.size_drew, World.size_alloc, World.size_setCell]); omega) hb4; have hz4_0 : w.heap.size < w4.heap.size := (by omega); have hz4_1 : w.heap.size + 1 < w4.heap.size := (by omega); obtain ⟨p4, c4, rfl⟩ := hC.shape; have HC4 := Lib.hid hC; clear hC))
      have hO : OwnI w3 (w.heap.size + 2) (.slice ao (0 + m) cp) (fr.take m) := by
        have e : (fr.take m).length = 0 + m := by have := HM.out; rw [List.length_take]; omega
        show World.ownsRow _ _ _ _ _ _ _
        rw [e]; exact HO3.out
      refine bodyPost_ret (v := .tuple #[.agg #[.slice p4 (l.set k (g, true, v)).length c4, .slice ao (0 + m) cp], .int .i64 (wrap64 (wrap64 (64 * g) + k)), .int .i64 0]) (by simp [results, Try.results11, go_sem, hk1, hz1_0, hz1_1, hk3, hz3_0, hz3_1, hk4, hz4_0, hz4_1]) rfl (RetS2.mk HN.out ⟨OwnC.reads (((HC4.out.mono (B' := w.heap.size + 2) (by simp only [World.size_setCell]; omega)).below _ _ (by show w.heap.size + 1 < _; omega)).below _ _ (by show w.heap.size + 1 < _; omega)), ?_⟩ ?_ ?_)
      · exact ((((hO.below ⟨w.heap.size, 1, none⟩ _ (by show w.heap.size < _; omega)).call hb4).below _ _ (by show w.heap.size + 1 < _; omega)).below _ _ (by show w.heap.size + 1 < _; omega)).reads
      · exact hO.capOk
      · (repeat (first | (with_reducible exact Below.refl _ _) | ((with_reducible refine below_alloc ?_ ?_ _); · (first | omega | (simp; done) | (simp; omega))) | ((with_reducible refine below_setCell ?_ ?_ _); · (first | omega | (simp; done) | (simp; omega))) | (with_reducible refine Below.drew ?_) | (with_reducible refine below_drewN ?_ _) | ((with_reducible refine below_call (by assumption) ?_ ?_); · (first | omega | (simp; done) | (simp; omega)))))
  · have hc1 : (chkN (l, fr) != 0) = true := by simpa using hc
    have HN : Hid (takeN (l, fr) v = ((l, fr), 0, chkN (l, fr))) := Lib.hid (by unfold takeN; rw [if_pos hc])
    clear hc
    go_enter Try.func11, Try.ntmps11
    go_wp2_with (go_at_call 23; refine (refcheck_any _ _ (l, fr) _ (by exact Hv.out.call (by (repeat (first | (with_reducible exact Below.refl _ _) | ((with_reducible refine below_alloc ?_ ?_ _); · (first | omega | (simp; done) | (simp; omega))) | ((with_reducible refine below_setCell ?_ ?_ _); · (first | omega | (simp; done) | (simp; omega))) | (with_reducible refine Below.drew ?_) | (with_reducible refine below_drewN ?_ _) | ((with_reducible refine below_call (by assumption) ?_ ?_); · (first | omega | (simp; done) | (simp; omega))))))) hl hf).mono ?_; rintro e w1 ⟨rfl, hb1⟩; obtain ⟨hk1, hf1, hz1⟩ := bcellN (n := w.heap.size + 2) (by (try simp only [World.size_drew, World.size_alloc, World.size_setCell]); omega) hb1; have hz1_0 : w.heap.size < w1.heap.size := (by omega); have hz1_1 : w.heap.size + 1 < w1.heap.size := (by omega))
    refine bodyPost_ret (v := .tuple #[.agg #[.slice pc l.length cc, .slice pf fr.length cf], .int .i64 0, .int .i64 (chkN (l, fr))]) (by simp [results, Try.results11, go_sem, hk1, hz1_0, hz1_1]) rfl (RetS2.mk HN.out (Hv.out.call ?_) Hc.out ?_)
    all_goals (repeat (first | (with_reducible exact Below.refl _ _) | ((with_reducible refine below_alloc ?_ ?_ _); · (first | omega | (simp; done) | (simp; omega))) | ((with_reducible refine below_setCell ?_ ?_ _); · (first | omega | (simp; done) | (simp; omega))) | (with_reducible refine Below.drew ?_) | (with_reducible refine below_drewN ?_ _) | ((with_reducible refine below_call (by assumption) ?_ ?_); · (first | omega | (simp; done) | (simp; omega)))))
end Go.Proofs.Ytmnlpmfkoammhaa
