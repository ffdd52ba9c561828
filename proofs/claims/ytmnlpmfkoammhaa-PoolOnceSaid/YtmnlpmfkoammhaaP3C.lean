/- Contracts of layer 3, the document's: whether a state may be; another cell at a place. -/
import Derived.Test.YtmnlpmfkoammhaaP3B
import Derived.Laws.AppendOwnNone
import Derived.Maps.AppendAt
namespace Go.Proofs.Ytmnlpmfkoammhaa
open Go.RowKit
set_option linter.unusedVariables false
set_option linter.unusedSimpArgs false

theorem any_no {l : List Cel} {f : Cel → Bool} (h : ∀ j (hj : j < l.length), f l[j] = false) : l.any f = false := by
  rw [List.any_eq_false]; intro c hc
  obtain ⟨j, hj, rfl⟩ := List.mem_iff_getElem.1 hc
  simp [h j hj]
theorem any_yes {l : List Cel} {f : Cel → Bool} {j : Nat} (hj : j < l.length) (h : f l[j] = true) : l.any f = true := by
  rw [List.any_eq_true]; exact ⟨l[j], List.getElem_mem _, h⟩

set_option maxRecDepth 100000 in
set_option maxHeartbeats 4000000 in
theorem refcheck_any (vc vf : Value) (st : St) (w : World) (hv : IsSt w vc vf st) (hl : st.1.length ≤ 1048576) (hf : st.2.length ≤ 1048576) :
    Calls Try.prog 23 #[.agg #[vc, vf]] w fun e w' => e = .returned (.int .i64 (chkN st)) ∧ Below w.heap.size w w' := by
  obtain ⟨l, fr⟩ := st
  have hv0 := hv
  obtain ⟨⟨pc, cc, rfl, hp⟩, ⟨pf, cf, rfl, hq⟩⟩ := hv
  have Hp := Lib.hid hp
  have Hv := Lib.hid hv0
  clear hp hq hv0
  by_cases h1 : l.length < 1
  · have h1' : (l.length : Int) < 1 := by omega
    have HN : Hid (chkN (l, fr) = 5) := Lib.hid (by unfold chkN; rw [if_pos (.inl h1)])
    clear h1
    go_enter Try.func23, Try.ntmps23
    go_wp2
    go_ret
    exact ⟨ret_int HN.out.symm, by (repeat (first | (with_reducible exact Below.refl _ _) | ((with_reducible refine below_alloc ?_ ?_ _); · (first | omega | (simp; done) | (simp; omega))) | ((with_reducible refine below_setCell ?_ ?_ _); · (first | omega | (simp; done) | (simp; omega))) | (with_reducible refine Below.drew ?_) | (with_reducible refine below_drewN ?_ _) | ((with_reducible refine below_call (by assumption) ?_ ?_); · (first | omega | (simp; done) | (simp; omega)))))⟩
  · by_cases h2 : 64 < l.length
    · have h1' : (1 : Int) ≤ l.length := by omega
      have h2' : (64 : Int) < l.length := by omega
      have HN : Hid (chkN (l, fr) = 5) := Lib.hid (by unfold chkN; rw [if_pos (.inr h2)])
      clear h1 h2
      go_enter Try.func23, Try.ntmps23
      go_wp2
      go_ret
      exact ⟨ret_int HN.out.symm, by (repeat (first | (with_reducible exact Below.refl _ _) | ((with_reducible refine below_alloc ?_ ?_ _); · (first | omega | (simp; done) | (simp; omega))) | ((with_reducible refine below_setCell ?_ ?_ _); · (first | omega | (simp; done) | (simp; omega))) | (with_reducible refine Below.drew ?_) | (with_reducible refine below_drewN ?_ _) | ((with_reducible refine below_call (by assumption) ?_ ?_); · (first | omega | (simp; done) | (simp; omega)))))⟩
    · have h1' : (1 : Int) ≤ l.length := by omega
      have h2' : (l.length : Int) ≤ 64 := by omega
      have hle : l.length ≤ 64 := by omega
      have e1 : chkN (l, fr) = if l.any genBad then 8 else if l.any valBad then 4 else if freeB (l, fr) then 0 else 10 := by
        unfold chkN; rw [if_neg (by simp only; omega)]
      have E1 := Lib.hid e1
      clear h1 h2 e1
      go_enter Try.func23, Try.ntmps23
      go_wp2
      obtain ⟨W, hW⟩ : ∃ W, w.alloc (.cells #[.slice pc l.length cc, .slice pf fr.length cf] 25) = W := ⟨_, rfl⟩
      have e0 : W.cell? ⟨w.heap.size, 0, none⟩ = some (.slice pc l.length cc) := by rw [← hW]; simp [go_sem]
      have e1 : W.cell? ⟨w.heap.size, 1, none⟩ = some (.slice pf fr.length cf) := by rw [← hW]; simp [go_sem]
      have hB : Below w.heap.size w W := by rw [← hW]; exact (Below.refl _ _).alloc (Nat.le_refl _) _
      rw [hW]
      clear hW
      have rd : ∀ k (hk : k < l.length), ∃ b off, pc = some ⟨b, off, none⟩ ∧ W.cell? ⟨b, off + k * 3, none⟩ = some (.int .i64 l[k].1) ∧ W.cell? ⟨b, off + k * 3 + 1, none⟩ = some (.bool l[k].2.1) ∧ W.cell? ⟨b, off + k * 3 + 2, none⟩ = some (.int .i64 l[k].2.2) := fun k hk => by
        obtain ⟨b, off, hpc, h0, h1, h2⟩ := Hp.out k hk
        exact ⟨b, off, hpc, (hB.cell (p := ⟨b, off + k * 3, none⟩) (World.block_lt_of_cell? _ _ h0)).trans h0, (hB.cell (p := ⟨b, off + k * 3 + 1, none⟩) (World.block_lt_of_cell? _ _ h1)).trans h1, (hB.cell (p := ⟨b, off + k * 3 + 2, none⟩) (World.block_lt_of_cell? _ _ h2)).trans h2⟩
      have RD := Lib.hid rd
      clear rd
      go_loop [3] (fun i => ∃ k : Nat, i = .int .i64 k ∧ k ≤ l.length ∧ ∀ j (hj : j < l.length), j < k → genBad l[j] = false) (fun i => l.length - (intOf i).toNat)
      case atStart => exact ⟨0, rfl, by omega, fun j hj h => by omega⟩
      case round =>
        obtain ⟨k, rfl, hk, hok⟩ := hrel
        have HK := Lib.hid hok
        clear hok
        by_cases hlt : k < l.length
        · have hlt' : (k : Int) < l.length := by omega
          obtain ⟨b, off, rfl, d0, d1, d2⟩ := RD.out k hlt
          obtain ⟨g, hg⟩ : ∃ g, l[k].1 = g := ⟨_, rfl⟩
          rw [hg] at d0
          have HG := Lib.hid hg
          clear hg d1 d2
          by_cases hb1 : g < 0
          · have HN := Lib.hid (any_yes (f := genBad) hlt (by unfold genBad; rw [HG.out]; simp; omega))
            go_wp2
            go_ret
            exact ⟨ret_int (by rw [E1.out, if_pos HN.out]), hB⟩
          · have hb1' : 0 ≤ g := by omega
            by_cases hb2 : 1048576 < g
            · have HN := Lib.hid (any_yes (f := genBad) hlt (by unfold genBad; rw [HG.out]; simp; omega))
              clear hb1
              go_wp2
              go_ret
              exact ⟨ret_int (by rw [E1.out, if_pos HN.out]), hB⟩
            · have hb2' : g ≤ 1048576 := by omega
              clear hb1 hb2
              go_wp2
              go_round
              case rel => exact ⟨k + 1, by go_num, by omega, fun j hj hjk => by
                by_cases e : j = k
                · subst e; unfold genBad; rw [HG.out]; simp; omega
                · exact HK.out j hj (by omega)⟩
              case measure => simp [intOf]; omega
        · obtain rfl : k = l.length := by omega
          have hno := any_no (f := genBad) (fun j hj => HK.out j hj hj)
          have E2 : Hid (chkN (l, fr) = if l.any valBad then 4 else if freeB (l, fr) then 0 else 10) := Lib.hid (by rw [E1.out, if_neg (by simp [hno])])
          clear hno
          go_wp2
          go_loop [4] (fun i => ∃ k : Nat, i = .int .i64 k ∧ k ≤ l.length ∧ ∀ j (hj : j < l.length), j < k → valBad l[j] = false) (fun i => l.length - (intOf i).toNat)
          case atStart => exact ⟨0, rfl, by omega, fun j hj h => by omega⟩
          case round =>
            obtain ⟨k, rfl, hk2, hok⟩ := hrel
            have HK := Lib.hid hok
            clear hok
            by_cases hlt2 : k < l.length
            · have hlt' : (k : Int) < l.length := by omega
              obtain ⟨b, off, rfl, d0, d1, d2⟩ := RD.out k hlt2
              obtain ⟨v, hv⟩ : ∃ v, l[k].2.1 = v := ⟨_, rfl⟩
              obtain ⟨u, hu⟩ : ∃ u, l[k].2.2 = u := ⟨_, rfl⟩
              rw [hv] at d1
              rw [hu] at d2
              have HG := Lib.hid (And.intro hv hu)
              clear hv hu d0
              cases v
              · by_cases hz : u = 0
                · have hz' : (u != 0) = false := by simp [hz]
                  have HZ := Lib.hid hz
                  clear hz
                  go_wp2
                  go_round
                  case rel => exact ⟨k + 1, by go_num, by omega, fun j hj hjk => by
                    by_cases e : j = k
                    · subst e; unfold valBad; rw [HG.out.1, HG.out.2, HZ.out]; rfl
                    · exact HK.out j hj (by omega)⟩
                  case measure => simp [intOf]; omega
                · have hz' : (u != 0) = true := by simpa using hz
                  have HN := Lib.hid (any_yes (f := valBad) hlt2 (by unfold valBad; rw [HG.out.1, HG.out.2]; simpa using hz))
                  clear hz
                  go_wp2
                  go_ret
                  exact ⟨ret_int (by rw [E2.out, if_pos HN.out]), hB⟩
              · go_wp2
                go_round
                case rel => exact ⟨k + 1, by go_num, by omega, fun j hj hjk => by
                  by_cases e : j = k
                  · subst e; unfold valBad; rw [HG.out.1]; rfl
                  · exact HK.out j hj (by omega)⟩
                case measure => simp [intOf]; omega
            · obtain rfl : k = l.length := by omega
              have hno := any_no (f := valBad) (fun j hj => HK.out j hj hj)
              have E3 : Hid (chkN (l, fr) = if freeB (l, fr) then 0 else 10) := Lib.hid (by rw [E2.out, if_neg (by simp [hno])])
              have hst : IsSt W (.slice pc l.length cc) (.slice pf fr.length cf) (l, fr) := Hv.out.call hB
              have hfree := reffree_any _ _ (l, fr) W hst hle hf
              have hz := hB.size
              clear hno hst
              cases hfb : freeB (l, fr)
              · rw [hfb] at hfree
                have E4 := Lib.hid hfb
                clear hfb
                go_wp2_with (go_at_call 43; refine hfree.mono ?_; rintro e w1 ⟨rfl, hb1⟩)
                go_ret
                exact ⟨ret_int (by rw [E3.out, E4.out]; rfl), by (repeat (first | (with_reducible exact Below.refl _ _) | ((with_reducible refine below_alloc ?_ ?_ _); · (first | omega | (simp; done) | (simp; omega))) | ((with_reducible refine below_setCell ?_ ?_ _); · (first | omega | (simp; done) | (simp; omega))) | (with_reducible refine Below.drew ?_) | (with_reducible refine below_drewN ?_ _) | ((with_reducible refine below_call (by assumption) ?_ ?_); · (first | omega | (simp; done) | (simp; omega)))))⟩
              · rw [hfb] at hfree
                have E4 := Lib.hid hfb
                clear hfb
                go_wp2_with (go_at_call 43; refine hfree.mono ?_; rintro e w1 ⟨rfl, hb1⟩)
                go_ret
                exact ⟨ret_int (by rw [E3.out, E4.out]; rfl), by (repeat (first | (with_reducible exact Below.refl _ _) | ((with_reducible refine below_alloc ?_ ?_ _); · (first | omega | (simp; done) | (simp; omega))) | ((with_reducible refine below_setCell ?_ ?_ _); · (first | omega | (simp; done) | (simp; omega))) | (with_reducible refine Below.drew ?_) | (with_reducible refine below_drewN ?_ _) | ((with_reducible refine below_call (by assumption) ?_ ?_); · (first | omega | (simp; done) | (simp; omega)))))⟩
end Go.Proofs.Ytmnlpmfkoammhaa
