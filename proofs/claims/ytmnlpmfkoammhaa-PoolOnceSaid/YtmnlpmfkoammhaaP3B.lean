/- Contracts of layer 3, the document's: the free places; whether a state may be. -/
import Derived.Test.YtmnlpmfkoammhaaP3A
import Derived.Laws.MakeOwn
import Derived.Lib.Builder
namespace Go.Proofs.Ytmnlpmfkoammhaa
open Go.RowKit
set_option linter.unusedVariables false
set_option linter.unusedSimpArgs false

set_option maxRecDepth 100000 in
set_option maxHeartbeats 4000000 in
theorem reffree_any (vc vf : Value) (st : St) (w : World) (hv : IsSt w vc vf st) (hl : st.1.length ≤ 64) (hf : st.2.length ≤ 1048576) :
    Calls Try.prog 43 #[.agg #[vc, vf]] w fun e w' => e = .returned (.bool (freeB st)) ∧ Below w.heap.size w w' := by
  obtain ⟨l, fr⟩ := st
  obtain ⟨⟨pc, cc, rfl, hp⟩, ⟨pf, cf, rfl, hq⟩⟩ := hv
  have Hp := Lib.hid hp
  have Hq := Lib.hid hq
  clear hp hq
  go_enter Try.func43, Try.ntmps43
  go_wp2
  obtain ⟨W, hW⟩ : ∃ W, (w.alloc (.cells #[.slice pc l.length cc, .slice pf fr.length cf] 25)).alloc (.cells (Array.replicate 64 (.bool false)) 81) = W := ⟨_, rfl⟩
  have e0 : W.cell? ⟨w.heap.size, 0, none⟩ = some (.slice pc l.length cc) := by rw [← hW]; simp [go_sem]
  have e1 : W.cell? ⟨w.heap.size, 1, none⟩ = some (.slice pf fr.length cf) := by rw [← hW]; simp [go_sem]
  have e2 : ∀ j, j < 64 → W.cell? ⟨w.heap.size + 1, j, none⟩ = some (.bool false) ∧ W.frozen? ⟨w.heap.size + 1, j, none⟩ = false := fun j hj => by
    rw [← hW]
    have h := heap_alloc_new (w.alloc (.cells #[.slice pc l.length cc, .slice pf fr.length cf] 25)) (.cells (Array.replicate 64 (.bool false)) 81)
    rw [World.size_alloc] at h
    exact ⟨by rw [Lib.cell_of_heap h]; simp [hj], Lib.frozen_of_heap h j⟩
  have hB : Below w.heap.size w W := by rw [← hW]; exact ((Below.refl _ _).alloc (Nat.le_refl _) _).alloc (by simp) _
  simp only [Array.replicate_succ, Array.replicate_zero, List.push_toArray, List.nil_append, List.cons_append] at hW
  rw [hW]
  have E2 := Lib.hid e2
  clear hW e2
  go_loopw [4] (fun i wr => ∃ k : Nat, i = .int .i64 k ∧ k ≤ fr.length ∧ (∀ j (hj : j < fr.length), j < k → plB l fr[j] = true ∧ ¬ fr[j] ∈ fr.take j) ∧ (∀ j, j < 64 → wr.cell? ⟨w.heap.size + 1, j, none⟩ = some (.bool (decide ((j : Int) ∈ fr.take k))) ∧ wr.frozen? ⟨w.heap.size + 1, j, none⟩ = false) ∧ wr.cell? ⟨w.heap.size, 0, none⟩ = some (.slice pc l.length cc) ∧ wr.cell? ⟨w.heap.size, 1, none⟩ = some (.slice pf fr.length cf) ∧ Below w.heap.size w wr) (fun i _ => fr.length - (intOf i).toNat)
  case atStart => exact ⟨0, rfl, by omega, fun j hj h => by omega, fun j hj => by simpa using E2.out j hj, e0, e1, hB⟩
  case round =>
    clear e0 e1 hB
    obtain ⟨k, rfl, hk, hok, hseen, e0, e1, hB⟩ := hrel
    have HO := Lib.hid hok
    have HS := Lib.hid hseen
    clear hok hseen
    by_cases hlt : k < fr.length
    · have hlt' : (k : Int) < fr.length := by omega
      obtain ⟨bf, of, rfl, d⟩ := Hq.out k hlt
      have c1 : wr.cell? ⟨bf, of + k, none⟩ = some (.int .i64 fr[k]) := (hB.cell (p := ⟨bf, of + k, none⟩) (World.block_lt_of_cell? _ _ d)).trans d
      have hmem : fr[k] ∈ fr := List.getElem_mem _
      obtain ⟨x, hx⟩ : ∃ x, fr[k] = x := ⟨_, rfl⟩
      rw [hx] at c1 hmem
      have HX := Lib.hid (And.intro hx hmem)
      clear d hx hmem
      by_cases hn : x < 0
      · have HN := Lib.hid (freeB_no1 (st := (l, fr)) HX.out.2 (by unfold plB; simp; omega))
        go_wp2
        go_ret
        exact ⟨ret_bool HN.out.symm, hB⟩
      · obtain ⟨q, rfl⟩ : ∃ q : Nat, x = q := ⟨x.toNat, by omega⟩
        have hn' : (0 : Int) ≤ q := by omega
        clear hn
        by_cases hge : l.length ≤ q
        · have hge' : (l.length : Int) ≤ q := by omega
          have HN := Lib.hid (freeB_no1 (st := (l, fr)) HX.out.2 (by unfold plB; simp; omega))
          have hdn : decide (q < l.length) = false := by simp; omega
          have hdn2 : decide (l.length ≤ q) = true := by simp; omega
          go_wp2
          go_ret
          exact ⟨ret_bool HN.out.symm, hB⟩
        · have hql : q < l.length := by omega
          have hql' : (q : Int) < l.length := by omega
          have hq64 : (q : Int) < 64 := by omega
          have hdn2 : decide (l.length ≤ q) = false := by simp; omega
          clear hge
          obtain ⟨s1, s2⟩ := HS.out q (by omega)
          by_cases hin : (q : Int) ∈ fr.take k
          · rw [decide_eq_true hin] at s1
            have HN := Lib.hid (freeB_no2 (st := (l, fr)) hlt (by show fr[k] ∈ _; rw [HX.out.1]; exact hin))
            clear hin
            go_wp2
            go_ret
            exact ⟨ret_bool HN.out.symm, hB⟩
          · rw [decide_eq_false hin] at s1
            obtain ⟨b, off, rfl, h0, h1, h2⟩ := Hp.out q hql
            have d0 : wr.cell? ⟨b, off + q * 3, none⟩ = some (.int .i64 l[q].1) := (hB.cell (p := ⟨b, off + q * 3, none⟩) (World.block_lt_of_cell? _ _ h0)).trans h0
            have d1 : wr.cell? ⟨b, off + q * 3 + 1, none⟩ = some (.bool l[q].2.1) := (hB.cell (p := ⟨b, off + q * 3 + 1, none⟩) (World.block_lt_of_cell? _ _ h1)).trans h1
            have hca := celAt_lt l q hql
            obtain ⟨g, hg⟩ : ∃ g, l[q].1 = g := ⟨_, rfl⟩
            obtain ⟨v, hv⟩ : ∃ v, l[q].2.1 = v := ⟨_, rfl⟩
            rw [hg] at d0
            rw [hv] at d1
            have HC := Lib.hid (And.intro hin (And.intro hca (And.intro hg hv)))
            clear h0 h1 h2 hin hca hg hv
            cases v
            · by_cases hgn : g < 1048576
              · go_wp2
                go_roundw
                case rel =>
                  obtain ⟨a1, a2, a3, a4⟩ := HC.out
                  have htk : fr.take (k + 1) = fr.take k ++ [(q : Int)] := by rw [List.take_succ_eq_append_getElem hlt, HX.out.1]
                  refine ⟨k + 1, by go_num, by omega, fun j hj hjk => ?_, fun j hj => ?_, ?_, ?_, by (repeat (first | (with_reducible exact Below.refl _ _) | ((with_reducible refine below_alloc ?_ ?_ _); · (first | omega | (simp; done) | (simp; omega))) | ((with_reducible refine below_setCell ?_ ?_ _); · (first | omega | (simp; done) | (simp; omega))) | (with_reducible refine Below.drew ?_) | (with_reducible refine below_drewN ?_ _) | ((with_reducible refine below_call (by assumption) ?_ ?_); · (first | omega | (simp; done) | (simp; omega)))))⟩
                  · by_cases e : j = k
                    · subst e; rw [HX.out.1]
                      refine ⟨?_, a1⟩
                      unfold plB canGo
                      rw [Int.toNat_natCast, a2, a3, a4]
                      simp; omega
                    · exact HO.out j hj (by omega)
                  · obtain ⟨t1, t2⟩ := HS.out j hj
                    refine ⟨?_, by rw [World.frozen?_setCell]; exact t2⟩
                    rw [htk]
                    by_cases e : j = q
                    · subst e; rw [World.cell?_setCell_same _ _ _ s1]; simp
                    · rw [World.cell?_setCell_other _ _ _ _ (show (⟨w.heap.size + 1, q, none⟩ : Addr) ≠ ⟨w.heap.size + 1, j, none⟩ from fun h => e (by cases h; rfl)), t1]
                      congr 2
                      rw [Bool.eq_iff_iff, decide_eq_true_iff, decide_eq_true_iff, List.mem_append, List.mem_singleton]
                      constructor
                      · exact fun h => .inl h
                      · rintro (h | h)
                        · exact h
                        · exfalso; omega
                  · rw [World.cell?_setCell_other _ _ _ _ (by simp)]; exact e0
                  · rw [World.cell?_setCell_other _ _ _ _ (by simp)]; exact e1
                case measure => simp [intOf]; omega
              · have hgn' : 1048576 ≤ g := by omega
                have HN := Lib.hid (freeB_no1 (st := (l, fr)) (p := (q : Int)) HX.out.2 (by
                  obtain ⟨a1, a2, a3, a4⟩ := HC.out
                  unfold plB canGo; rw [Int.toNat_natCast]; simp only []; rw [a2, a3, a4]; simp; omega))
                clear hgn
                go_wp2
                go_ret
                exact ⟨ret_bool HN.out.symm, hB⟩
            · have HN := Lib.hid (freeB_no1 (st := (l, fr)) (p := (q : Int)) HX.out.2 (by
                obtain ⟨a1, a2, a3, a4⟩ := HC.out
                unfold plB canGo; rw [Int.toNat_natCast]; simp only []; rw [a2, a3, a4]; simp))
              go_wp2
              go_ret
              exact ⟨ret_bool HN.out.symm, hB⟩
    · obtain rfl : k = fr.length := by omega
      go_wp2
      go_loop [6] (fun i => ∃ k : Nat, i = .int .i64 k ∧ k ≤ l.length ∧ ∀ j, j < l.length → j < k → canGo (celAt l j) = true → (j : Int) ∈ fr) (fun i => l.length - (intOf i).toNat)
      case atStart => exact ⟨0, rfl, by omega, fun j hj h => by omega⟩
      case round =>
        obtain ⟨k, rfl, hk2, hok⟩ := hrel
        have HK := Lib.hid hok
        clear hok
        by_cases hlt2 : k < l.length
        · have hlt' : (k : Int) < l.length := by omega
          have hq64 : (k : Int) < 64 := by omega
          have hn' : (0 : Int) ≤ k := by omega
          obtain ⟨b, off, rfl, h0, h1, h2⟩ := Hp.out k hlt2
          have d0 : wr.cell? ⟨b, off + k * 3, none⟩ = some (.int .i64 l[k].1) := (hB.cell (p := ⟨b, off + k * 3, none⟩) (World.block_lt_of_cell? _ _ h0)).trans h0
          have d1 : wr.cell? ⟨b, off + k * 3 + 1, none⟩ = some (.bool l[k].2.1) := (hB.cell (p := ⟨b, off + k * 3 + 1, none⟩) (World.block_lt_of_cell? _ _ h1)).trans h1
          have hca := celAt_lt l k hlt2
          obtain ⟨s1, s2⟩ := HS.out k (by omega)
          rw [List.take_length] at s1
          obtain ⟨g, hg⟩ : ∃ g, l[k].1 = g := ⟨_, rfl⟩
          obtain ⟨v, hv⟩ : ∃ v, l[k].2.1 = v := ⟨_, rfl⟩
          rw [hg] at d0
          rw [hv] at d1
          have HC := Lib.hid (And.intro hca (And.intro hg hv))
          clear h0 h1 h2 hca hg hv
          have next : ∀ h : canGo (celAt l k) = true → (k : Int) ∈ fr, ∀ j, j < l.length → j < k + 1 → canGo (celAt l j) = true → (j : Int) ∈ fr := fun h j hj hjk => by
            by_cases e : j = k
            · subst e; exact h
            · exact HK.out j hj (by omega)
          have NX := Lib.hid next
          clear next
          cases v
          · by_cases hgn : g < 1048576
            · by_cases hin : (k : Int) ∈ fr
              · rw [decide_eq_true hin] at s1
                have HI := Lib.hid hin
                clear hin
                go_wp2
                go_round
                case rel => exact ⟨k + 1, by go_num, by omega, NX.out fun _ => HI.out⟩
                case measure => simp [intOf]; omega
              · rw [decide_eq_false hin] at s1
                have HN := Lib.hid (freeB_no3 (st := (l, fr)) hlt2 (by
                  obtain ⟨a2, a3, a4⟩ := HC.out
                  unfold canGo; simp only []; rw [a2, a3, a4]; simp; omega) hin)
                clear hin
                go_wp2
                go_ret
                exact ⟨ret_bool HN.out.symm, hB⟩
            · have hgn' : 1048576 ≤ g := by omega
              clear hgn
              go_wp2
              go_round
              case rel => exact ⟨k + 1, by go_num, by omega, NX.out fun h => by
                exfalso
                obtain ⟨a2, a3, a4⟩ := HC.out
                unfold canGo at h; rw [a2, a3, a4] at h; simp at h; omega⟩
              case measure => simp [intOf]; omega
          · go_wp2
            go_round
            case rel => exact ⟨k + 1, by go_num, by omega, NX.out fun h => by
              exfalso
              obtain ⟨a2, a3, a4⟩ := HC.out
              unfold canGo at h; rw [a2, a3, a4] at h; simp at h⟩
            case measure => simp [intOf]; omega
        · obtain rfl : k = l.length := by omega
          go_wp2
          go_ret
          exact ⟨ret_bool (freeB_yes (st := (l, fr)) (fun j hj => HO.out j hj hj) (fun j hj => HK.out j hj hj)).symm, hB⟩
end Go.Proofs.Ytmnlpmfkoammhaa
