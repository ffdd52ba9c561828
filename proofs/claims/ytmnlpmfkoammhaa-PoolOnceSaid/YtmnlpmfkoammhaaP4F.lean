/- Contracts of layer 3, the program's: whether the free places are right; whether a state may be. -/
import Derived.Test.YtmnlpmfkoammhaaP4B
namespace Go.Proofs.Ytmnlpmfkoammhaa
open Go.RowKit
set_option linter.unusedVariables false
set_option linter.unusedSimpArgs false

theorem pl_go {l : List Cel} {q : Nat} (h : q < l.length) : plB l (q : Int) = canGo l[q] := by
  unfold plB
  rw [Int.toNat_natCast, celAt_lt _ _ h, decide_eq_true (by omega), decide_eq_true (by omega)]; rfl

set_option maxRecDepth 100000 in
set_option maxHeartbeats 4000000 in
theorem right_any (vc vf : Value) (st : St) (w : World) (hv : IsSt w vc vf st) (hl : st.1.length ≤ 64) (hf : st.2.length ≤ 1048576) :
    Calls Try.prog 42 #[.agg #[vc, vf]] w fun e w' => e = .returned (.bool (freeB st)) ∧ Below w.heap.size w w' := by
  obtain ⟨l, fr⟩ := st
  replace hl : l.length ≤ 64 := hl
  replace hf : fr.length ≤ 1048576 := hf
  obtain ⟨⟨pc, cc, rfl, hp⟩, ⟨pf, cf, rfl, hq⟩⟩ := hv
  have Hp := Lib.hid hp
  have Hq := Lib.hid hq
  clear hp hq
  go_enter Try.func42, Try.ntmps42
  go_wp2
  obtain ⟨W, hW⟩ : ∃ W, (w.alloc (.cells #[.slice pc l.length cc, .slice pf fr.length cf] 30)).alloc (.cells (Array.replicate 64 (.bool false)) 81) = W := ⟨_, rfl⟩
  have e0 : W.cell? ⟨w.heap.size, 0, none⟩ = some (.slice pc l.length cc) := by rw [← hW]; simp [go_sem]
  have e1 : W.cell? ⟨w.heap.size, 1, none⟩ = some (.slice pf fr.length cf) := by rw [← hW]; simp [go_sem]
  have e2 : ∀ j, j < 64 → W.cell? ⟨w.heap.size + 1, j, none⟩ = some (.bool false) ∧ W.frozen? ⟨w.heap.size + 1, j, none⟩ = false := fun j hj => by
    rw [← hW]
    have h := heap_alloc_new (w.alloc (.cells #[.slice pc l.length cc, .slice pf fr.length cf] 30)) (.cells (Array.replicate 64 (.bool false)) 81)
    rw [World.size_alloc] at h
    exact ⟨by rw [Lib.cell_of_heap h]; simp [hj], Lib.frozen_of_heap h j⟩
  have hB : Below w.heap.size w W := by rw [← hW]; exact ((Below.refl _ _).alloc (Nat.le_refl _) _).alloc (by simp) _
  have hsz : w.heap.size + 2 ≤ W.heap.size := by rw [← hW]; simp
  simp only [Array.replicate_succ, Array.replicate_zero, List.push_toArray, List.nil_append, List.cons_append] at hW
  rw [hW]
  have E2 := Lib.hid e2
  clear hW e2
  go_loopw [11] (fun i wr => ∃ k : Nat, i = .int .i64 k ∧ k ≤ fr.length ∧ (∀ j (hj : j < fr.length), j < k → plB l fr[j] = true ∧ ¬ fr[j] ∈ fr.take j) ∧ (∀ j, j < 64 → wr.cell? ⟨w.heap.size + 1, j, none⟩ = some (.bool (decide ((j : Int) ∈ fr.take k))) ∧ wr.frozen? ⟨w.heap.size + 1, j, none⟩ = false) ∧ wr.cell? ⟨w.heap.size, 0, none⟩ = some (.slice pc l.length cc) ∧ wr.cell? ⟨w.heap.size, 1, none⟩ = some (.slice pf fr.length cf) ∧ w.heap.size + 2 ≤ wr.heap.size ∧ Below w.heap.size w wr) (fun i _ => fr.length - (intOf i).toNat)
  case atStart => exact ⟨0, rfl, by omega, fun j hj h => by omega, fun j hj => by simpa using E2.out j hj, e0, e1, hsz, hB⟩
  case round =>
    clear e0 e1 hB hsz
    obtain ⟨k, rfl, hk, hok, hseen, e0, e1, hsz, hB⟩ := hrel
    have HO := Lib.hid hok
    have HS := Lib.hid hseen
    clear hok hseen
    by_cases hlt : k < fr.length
    · have hlt' : (k : Int) < fr.length := by omega
      obtain ⟨bf, of, rfl, d⟩ := Hq.out k hlt
      have c1 : wr.cell? ⟨bf, of + k, none⟩ = some (.int .i64 fr[k]) := (hB.cell (p := ⟨bf, of + k, none⟩) (World.block_lt_of_cell? _ _ d)).trans d
      have hmem : fr[k] ∈ fr := List.getElem_mem _
      obtain ⟨x, hx⟩ : ∃ x, fr[k] = x := ⟨_, rfl⟩
      rw [hx] at c1 hmem
      have HX := Lib.hid (And.intro hx hmem)
      clear d hx hmem
      by_cases hn : x < 0
      · have HN := Lib.hid (freeB_no1 (st := (l, fr)) HX.out.2 (by unfold plB; simp; omega))
        go_wp2
        go_ret
        exact ⟨ret_bool HN.out.symm, hB⟩
      · obtain ⟨q, rfl⟩ : ∃ q : Nat, x = q := ⟨x.toNat, by omega⟩
        have hn' : (0 : Int) ≤ q := by omega
        clear hn
        by_cases hge : l.length ≤ q
        · have hge' : (l.length : Int) ≤ q := by omega
          have HN := Lib.hid (freeB_no1 (st := (l, fr)) HX.out.2 (by unfold plB; simp; omega))
          have hdn : decide (q < l.length) = false := by simp; omega
          have hdn2 : decide (l.length ≤ q) = true := by simp; omega
          go_wp2
          go_ret
          exact ⟨ret_bool HN.out.symm, hB⟩
        · have hql : q < l.length := by omega
          have hql' : (q : Int) < l.length := by omega
          have hq64 : (q : Int) < 64 := by omega
          have hdn2 : decide (l.length ≤ q) = false := by simp; omega
          clear hge
          obtain ⟨s1, s2⟩ := HS.out q (by omega)
          by_cases hin : (q : Int) ∈ fr.take k
          · rw [decide_eq_true hin] at s1
            have HN := Lib.hid (freeB_no2 (st := (l, fr)) hlt (by show fr[k] ∈ _; rw [HX.out.1]; exact hin))
            clear hin
            go_wp2
            go_ret
            exact ⟨ret_bool HN.out.symm, hB⟩
          · rw [decide_eq_false hin] at s1
            obtain ⟨b, off, rfl, h0, h1, h2⟩ := Hp.out q hql
            have d0 := (hB.cell (p := ⟨b, off + q * 3, none⟩) (World.block_lt_of_cell? _ _ h0)).trans h0
            have d1 := (hB.cell (p := ⟨b, off + q * 3 + 1, none⟩) (World.block_lt_of_cell? _ _ h1)).trans h1
            have d2 := (hB.cell (p := ⟨b, off + q * 3 + 2, none⟩) (World.block_lt_of_cell? _ _ h2)).trans h2
            have hpg := pl_go hql
            obtain ⟨c, hc⟩ : ∃ c, l[q] = c := ⟨_, rfl⟩
            rw [hc] at d0 d1 d2 hpg
            have HC := Lib.hid (And.intro hin hpg)
            have hcon := fun W => isfree_any c W
            clear h0 h1 h2 hin hpg hc
            cases hcg : canGo c
            · rw [hcg] at hcon
              have HN := Lib.hid (freeB_no1 (st := (l, fr)) HX.out.2 (by show plB l (q : Int) = false; rw [HC.out.2]; exact hcg))
              clear hcg
              go_wp2_with (go_at_call 36; refine (hcon _).mono ?_; rintro e w2 ⟨rfl, hb2⟩; obtain ⟨hk2, hf2, hz2⟩ := bcellN (n := w.heap.size + 2) (by omega) hb2)
              go_ret
              exact ⟨ret_bool HN.out.symm, by (repeat (first | (with_reducible exact Below.refl _ _) | ((with_reducible refine below_alloc ?_ ?_ _); · (first | omega | (simp; done) | (simp; omega))) | ((with_reducible refine below_setCell ?_ ?_ _); · (first | omega | (simp; done) | (simp; omega))) | (with_reducible refine Below.drew ?_) | (with_reducible refine below_drewN ?_ _) | ((with_reducible refine below_call (by assumption) ?_ ?_); · (first | omega | (simp; done) | (simp; omega)))))⟩
            · rw [hcg] at hcon
              have HG := Lib.hid hcg
              clear hcg
              go_wp2_with (go_at_call 36; refine (hcon _).mono ?_; rintro e w2 ⟨rfl, hb2⟩; obtain ⟨hk2, hf2, hz2⟩ := bcellN (n := w.heap.size + 2) (by omega) hb2)
              go_roundw
              case rel =>
                obtain ⟨a1, a2⟩ := HC.out
                have htk : fr.take (k + 1) = fr.take k ++ [(q : Int)] := by rw [List.take_succ_eq_append_getElem hlt, HX.out.1]
                refine ⟨k + 1, by go_num, by omega, fun j hj hjk => ?_, fun j hj => ?_, ?_, ?_, by simp only [World.size_setCell]; omega, by (repeat (first | (with_reducible exact Below.refl _ _) | ((with_reducible refine below_alloc ?_ ?_ _); · (first | omega | (simp; done) | (simp; omega))) | ((with_reducible refine below_setCell ?_ ?_ _); · (first | omega | (simp; done) | (simp; omega))) | (with_reducible refine Below.drew ?_) | (with_reducible refine below_drewN ?_ _) | ((with_reducible refine below_call (by assumption) ?_ ?_); · (first | omega | (simp; done) | (simp; omega)))))⟩
                · by_cases e : j = k
                  · subst e; rw [HX.out.1]
                    exact ⟨by rw [a2]; exact HG.out, a1⟩
                  · exact HO.out j hj (by omega)
                · obtain ⟨t1, t2⟩ := HS.out j hj
                  have t1' := (hk2 (w.heap.size + 1) j (by omega)).trans t1
                  have s1' := (hk2 (w.heap.size + 1) q (by omega)).trans s1
                  refine ⟨?_, by rw [World.frozen?_setCell, hf2 _ _ (by omega)]; exact t2⟩
                  rw [htk]
                  by_cases e : j = q
                  · subst e; rw [World.cell?_setCell_same _ _ _ s1']; simp
                  · rw [World.cell?_setCell_other _ _ _ _ (show (⟨w.heap.size + 1, q, none⟩ : Addr) ≠ ⟨w.heap.size + 1, j, none⟩ from fun h => e (by cases h; rfl)), t1']
                    congr 2
                    rw [Bool.eq_iff_iff, decide_eq_true_iff, decide_eq_true_iff, List.mem_append, List.mem_singleton]
                    constructor
                    · exact fun h => .inl h
                    · rintro (h | h)
                      · exact h
                      · exfalso; omega
                · rw [World.cell?_setCell_other _ _ _ _ (by simp), hk2 _ _ (by omega)]; exact e0
                · rw [World.cell?_setCell_other _ _ _ _ (by simp), hk2 _ _ (by omega)]; exact e1
              case measure => simp [intOf]; omega
    · obtain rfl : k = fr.length := by omega
      rw [List.take_length] at HS
      go_wp2
      obtain ⟨wo, hwo⟩ : ∃ wo, wo = wr := ⟨_, rfl⟩
      subst hwo
      go_loopw [44] (fun i wr => ∃ k : Nat, i = .int .i64 k ∧ k ≤ l.length ∧ (∀ j, j < l.length → j < k → canGo (celAt l j) = true → (j : Int) ∈ fr) ∧ Below wo.heap.size wo wr) (fun i _ => l.length - (intOf i).toNat)
      case atStart => exact ⟨0, rfl, by omega, fun j hj h => by omega, Below.refl _ _⟩
      case round =>
        obtain ⟨k, rfl, hk2, hok, hQ⟩ := hrel
        have HK := Lib.hid hok
        clear hok
        have hqz := hQ.size
        have hz_1 : w.heap.size + 1 < wr.heap.size := by omega
        obtain ⟨k1, f1, z1⟩ := bcellN (n := w.heap.size + 2) hsz hQ
        have hB2 : Below w.heap.size w wr := hB.trans (hQ.mono (by omega))
        by_cases hlt2 : k < l.length
        · have hlt' : (k : Int) < l.length := by omega
          have hq64 : (k : Int) < 64 := by omega
          have hn' : (0 : Int) ≤ k := by omega
          obtain ⟨b, off, rfl, h0, h1, h2⟩ := Hp.out k hlt2
          have d0 := (hB2.cell (p := ⟨b, off + k * 3, none⟩) (World.block_lt_of_cell? _ _ h0)).trans h0
          have d1 := (hB2.cell (p := ⟨b, off + k * 3 + 1, none⟩) (World.block_lt_of_cell? _ _ h1)).trans h1
          have d2 := (hB2.cell (p := ⟨b, off + k * 3 + 2, none⟩) (World.block_lt_of_cell? _ _ h2)).trans h2
          have hbw : b < wr.heap.size := World.block_lt_of_cell? _ _ d0
          have hca := celAt_lt l k hlt2
          have s1 := (HS.out k (by omega)).1
          obtain ⟨c, hc⟩ : ∃ c, l[k] = c := ⟨_, rfl⟩
          rw [hc] at d0 d1 d2 hca
          have HC := Lib.hid hca
          have hcon := fun W => isfree_any c W
          clear h0 h1 h2 hca hc
          have next : ∀ h : canGo (celAt l k) = true → (k : Int) ∈ fr, ∀ j, j < l.length → j < k + 1 → canGo (celAt l j) = true → (j : Int) ∈ fr := fun h j hj hjk => by
            by_cases e : j = k
            · subst e; exact h
            · exact HK.out j hj (by omega)
          have NX := Lib.hid next
          clear next
          cases hcg : canGo c
          · rw [hcg] at hcon
            have HG := Lib.hid hcg
            clear hcg
            go_wp2_with (go_at_call 36; refine (hcon _).mono ?_; rintro e w2 ⟨rfl, hb2⟩; obtain ⟨hk2', hf2, hz2⟩ := bcellN (n := w.heap.size + 2) (by (try simp only [World.size_drew, World.size_alloc, World.size_setCell]); omega) hb2)
            go_roundw
            case rel => exact ⟨k + 1, by go_num, by omega, NX.out (fun h => by rw [HC.out, HG.out] at h; cases h), by (repeat (first | (with_reducible exact Below.refl _ _) | ((with_reducible refine below_alloc ?_ ?_ _); · (first | omega | (simp; done) | (simp; omega))) | ((with_reducible refine below_setCell ?_ ?_ _); · (first | omega | (simp; done) | (simp; omega))) | (with_reducible refine Below.drew ?_) | (with_reducible refine below_drewN ?_ _) | ((with_reducible refine below_call (by assumption) ?_ ?_); · (first | omega | (simp; done) | (simp; omega))))); exact hQ⟩
            case measure => simp [intOf]; omega
          · rw [hcg] at hcon
            have HG := Lib.hid hcg
            clear hcg
            by_cases hin : (k : Int) ∈ fr
            · rw [decide_eq_true hin] at s1
              have HI := Lib.hid hin
              clear hin
              go_wp2_with (go_at_call 36; refine (hcon _).mono ?_; rintro e w2 ⟨rfl, hb2⟩; obtain ⟨hk2', hf2, hz2⟩ := bcellN (n := w.heap.size + 2) (by (try simp only [World.size_drew, World.size_alloc, World.size_setCell]); omega) hb2)
              go_roundw
              case rel => exact ⟨k + 1, by go_num, by omega, NX.out (fun _ => HI.out), by (repeat (first | (with_reducible exact Below.refl _ _) | ((with_reducible refine below_alloc ?_ ?_ _); · (first | omega | (simp; done) | (simp; omega))) | ((with_reducible refine below_setCell ?_ ?_ _); · (first | omega | (simp; done) | (simp; omega))) | (with_reducible refine Below.drew ?_) | (with_reducible refine below_drewN ?_ _) | ((with_reducible refine below_call (by assumption) ?_ ?_); · (first | omega | (simp; done) | (simp; omega))))); exact hQ⟩
              case measure => simp [intOf]; omega
            · rw [decide_eq_false hin] at s1
              have HN := Lib.hid (freeB_no3 (st := (l, fr)) hlt2 (by show canGo (celAt l k) = true; rw [HC.out]; exact HG.out) hin)
              clear hin
              go_wp2_with (go_at_call 36; refine (hcon _).mono ?_; rintro e w2 ⟨rfl, hb2⟩; obtain ⟨hk2', hf2, hz2⟩ := bcellN (n := w.heap.size + 2) (by (try simp only [World.size_drew, World.size_alloc, World.size_setCell]); omega) hb2)
              go_ret
              exact ⟨ret_bool HN.out.symm, by (repeat (first | (with_reducible exact Below.refl _ _) | ((with_reducible refine below_alloc ?_ ?_ _); · (first | omega | (simp; done) | (simp; omega))) | ((with_reducible refine below_setCell ?_ ?_ _); · (first | omega | (simp; done) | (simp; omega))) | (with_reducible refine Below.drew ?_) | (with_reducible refine below_drewN ?_ _) | ((with_reducible refine below_call (by assumption) ?_ ?_); · (first | omega | (simp; done) | (simp; omega)))))⟩
        · obtain rfl : k = l.length := by omega
          go_wp2
          go_ret
          exact ⟨ret_bool (freeB_yes (st := (l, fr)) (fun j hj => HO.out j hj hj) (fun j hj => HK.out j hj hj)).symm, hB2⟩
end Go.Proofs.Ytmnlpmfkoammhaa
