/- Contracts of layer 3, the document's: Handles, Used. -/
import Derived.Test.YtmnlpmfkoammhaaP3F
namespace Go.Proofs.Ytmnlpmfkoammhaa
open Go.RowKit
set_option linter.unusedVariables false
set_option linter.unusedSimpArgs false

/-- the handles of the live cells, from place k on -/
def hanF : List Cel → Nat → List Int
  | [], _ => []
  | c :: r, k => if c.2.1 = true then wrap64 (wrap64 (64 * c.1) + k) :: hanF r (k + 1) else hanF r (k + 1)
def hanN (st : St) : List Int := if chkN st = 0 then hanF st.1 0 else []
theorem hanF_drop (l : List Cel) (k : Nat) (hk : k < l.length) : hanF (l.drop k) k = if l[k].2.1 = true then wrap64 (wrap64 (64 * l[k].1) + k) :: hanF (l.drop (k + 1)) (k + 1) else hanF (l.drop (k + 1)) (k + 1) := by
  rw [List.drop_eq_getElem_cons hk]; rfl
theorem hanF_len (l : List Cel) : ∀ k, (hanF l k).length ≤ l.length := by
  induction l with
  | nil => intro k; exact Nat.le_refl _
  | cons c r ih =>
    intro k
    have := ih (k + 1)
    unfold hanF
    split <;> simp <;> omega
theorem hanN_len (st : St) : (hanN st).length ≤ st.1.length := by
  unfold hanN; split
  · exact hanF_len _ _
  · exact Nat.zero_le _

theorem row_shape3 {w : World} {B : Nat} {E : TypeId} {v : Value} {l : List Int} (h : w.ownsRow B E 1 v l.length (l.map (Value.int .i64))) : ∃ ao cap, v = .slice ao l.length cap := by
  rcases h.2 with ⟨hv, h0⟩ | ⟨g, cap, cur, hv, _⟩
  · exact ⟨none, 0, by rw [hv, h0]⟩
  · exact ⟨_, _, hv⟩

set_option maxRecDepth 100000 in
set_option maxHeartbeats 4000000 in
theorem refhan_any (vc vf : Value) (st : St) (w : World) (hv : IsSt w vc vf st) (hl : st.1.length ≤ 1048576) (hf : st.2.length ≤ 1048576) :
    Calls Try.prog 28 #[.agg #[vc, vf]] w fun e w' => ∃ v, e = .returned v ∧ OwnI w' w.heap.size v (hanN st) ∧ Below w.heap.size w w' := by
  obtain ⟨i0, hi, hz0, hz1, hz2⟩ := info_parts info_int
  obtain ⟨l, fr⟩ := st
  have hv0 := hv
  obtain ⟨⟨pc, cc, rfl, hp⟩, ⟨pf, cf, rfl, hq⟩⟩ := hv
  have Hp := Lib.hid hp
  have Hv := Lib.hid hv0
  clear hp hq hv0
  by_cases hc : chkN (l, fr) = 0
  · have HC := Lib.hid hc
    have HN : Hid (hanN (l, fr) = hanF l 0) := Lib.hid (by unfold hanN; rw [if_pos hc])
    clear hc
    go_enter Try.func28, Try.ntmps28
    go_wp2
    go_loopw [3, 4] (fun u i wr => ∃ k : Nat, i = .int .i64 k ∧ k ≤ l.length ∧ (∃ X : List Int, OwnI wr (w.heap.size + 1) u X ∧ X ++ hanF (l.drop k) k = hanF l 0 ∧ X.length ≤ k) ∧ wr.cell? ⟨w.heap.size, 0, none⟩ = some (.slice pc l.length cc) ∧ wr.cell? ⟨w.heap.size, 1, none⟩ = some (.slice pf fr.length cf) ∧ w.heap.size < wr.heap.size ∧ Below w.heap.size w wr) (fun _ i _ => l.length - (intOf i).toNat)
    case atStart => exact ⟨0, rfl, by omega, ⟨[], OwnI.nil _ _, rfl, Nat.le_refl _⟩, by simp [go_sem], by simp [go_sem], by simp, by (repeat (first | (with_reducible exact Below.refl _ _) | ((with_reducible refine below_alloc ?_ ?_ _); · (first | omega | (simp; done) | (simp; omega))) | ((with_reducible refine below_setCell ?_ ?_ _); · (first | omega | (simp; done) | (simp; omega))) | (with_reducible refine Below.drew ?_) | (with_reducible refine below_drewN ?_ _) | ((with_reducible refine below_call (by assumption) ?_ ?_); · (first | omega | (simp; done) | (simp; omega)))))⟩
    case round =>
      obtain ⟨k, rfl, hk, ⟨X, hown, hX, hXk⟩, e0, e1, hsz, hB⟩ := hrel
      have HX := Lib.hid hX
      clear hX
      by_cases hlt : k < l.length
      · have hlt' : (k : Int) < l.length := by omega
        obtain ⟨b, off, rfl, d0, d1, d2⟩ := Hp.out k hlt
        have hstep := hanF_drop l k hlt
        obtain ⟨g, hg⟩ : ∃ g, l[k].1 = g := ⟨_, rfl⟩
        obtain ⟨v, hv⟩ : ∃ v, l[k].2.1 = v := ⟨_, rfl⟩
        rw [hg] at d0 hstep
        rw [hv] at d1 hstep
        have HS := Lib.hid hstep
        have HD := Lib.hid (And.intro d0 d1)
        obtain ⟨ao, cp, hve⟩ := row_shape3 (E := 3) hown
        subst hve
        have HO := Lib.hid hown
        clear hstep hg hv d0 d1 d2 hown
        have hB1 := hB
        cases v
        · go_wp2_with (go_at_call 23; refine (refcheck_any _ _ (l, fr) _ (by exact Hv.out.call (by (repeat (first | (with_reducible exact Below.refl _ _) | ((with_reducible refine below_alloc ?_ ?_ _); · (first | omega | (simp; done) | (simp; omega))) | ((with_reducible refine below_setCell ?_ ?_ _); · (first | omega | (simp; done) | (simp; omega))) | (with_reducible refine Below.drew ?_) | (with_reducible refine below_drewN ?_ _) | ((with_reducible refine below_call (by assumption) ?_ ?_); · (first | omega | (simp; done) | (simp; omega))))))) hl hf).mono ?_; rintro e w2 ⟨rfl, hb2⟩; rw [HC.out]; obtain ⟨hk2, hf2, hz2'⟩ := bcellN (n := w.heap.size + 1) (by omega) hb2; have hB2 : Below w.heap.size w w2 := (by (repeat (first | (with_reducible exact Below.refl _ _) | ((with_reducible refine below_alloc ?_ ?_ _); · (first | omega | (simp; done) | (simp; omega))) | ((with_reducible refine below_setCell ?_ ?_ _); · (first | omega | (simp; done) | (simp; omega))) | (with_reducible refine Below.drew ?_) | (with_reducible refine below_drewN ?_ _) | ((with_reducible refine below_call (by assumption) ?_ ?_); · (first | omega | (simp; done) | (simp; omega)))))); have c0 := (hB2.cell (p := ⟨b, off + k * 3, none⟩) (World.block_lt_of_cell? _ _ HD.out.1)).trans HD.out.1; have c1 := (hB2.cell (p := ⟨b, off + k * 3 + 1, none⟩) (World.block_lt_of_cell? _ _ HD.out.2)).trans HD.out.2)
          go_roundw
          case rel =>
            exact ⟨k + 1, by go_num, by omega, ⟨X, HO.out.call (by assumption), by rw [← HX.out, HS.out]; rfl, by omega⟩, by rw [hk2 _ _ (by omega)]; exact e0, by rw [hk2 _ _ (by omega)]; exact e1, by omega, hB2⟩
          case measure => simp [intOf]; omega
        · go_wp2_with (first | (go_at_call 23; refine (refcheck_any _ _ (l, fr) _ (by exact Hv.out.call (by (repeat (first | (with_reducible exact Below.refl _ _) | ((with_reducible refine below_alloc ?_ ?_ _); · (first | omega | (simp; done) | (simp; omega))) | ((with_reducible refine below_setCell ?_ ?_ _); · (first | omega | (simp; done) | (simp; omega))) | (with_reducible refine Below.drew ?_) | (with_reducible refine below_drewN ?_ _) | ((with_reducible refine below_call (by assumption) ?_ ?_); · (first | omega | (simp; done) | (simp; omega))))))) hl hf).mono ?_; rintro e w2 ⟨rfl, hb2⟩; rw [HC.out]; obtain ⟨hk2, hf2, hz2'⟩ := bcellN (n := w.heap.size + 1) (by omega) hb2; have hB2 : Below w.heap.size w w2 := (by (repeat (first | (with_reducible exact Below.refl _ _) | ((with_reducible refine below_alloc ?_ ?_ _); · (first | omega | (simp; done) | (simp; omega))) | ((with_reducible refine below_setCell ?_ ?_ _); · (first | omega | (simp; done) | (simp; omega))) | (with_reducible refine Below.drew ?_) | (with_reducible refine below_drewN ?_ _) | ((with_reducible refine below_call (by assumption) ?_ ?_); · (first | omega | (simp; done) | (simp; omega)))))); have c0 := (hB2.cell (p := ⟨b, off + k * 3, none⟩) (World.block_lt_of_cell? _ _ HD.out.1)).trans HD.out.1; have c1 := (hB2.cell (p := ⟨b, off + k * 3 + 1, none⟩) (World.block_lt_of_cell? _ _ HD.out.2)).trans HD.out.2; have HO2 := Lib.hid (HO.out.call hb2); have hb3 := hb2.size) | (at_builtin; refine wpList_append_own _ rfl _ _ 23 rfl (w.heap.size + 1) 3 i0 (.int .i64 0) 1 8 Try.underlying23 hi hz0 hz1 hz2 rfl (by decide) _ X.length (X.map (Value.int .i64)) rfl (HO2.out.alloc _) ⟨w2.heap.size, 0, none⟩ 1 1 [Value.int .i64 (wrap64 (wrap64 (64 * g) + k))] rfl rfl (cell_one_new _ _ _) (by simp [Value.oneCell']) (by unfold maxLen; omega) (by omega) (by simp; omega) ?_; intro v' w3 hown' hgr _))
          go_roundw
          case rel =>
            have hb4 : Below (w.heap.size + 1) w2 w3 := ((Below.refl _ _).alloc (by omega) _).grown hgr (by simp; omega) (fun q hq => (HO2.out.lt q hq).1)
            have hb5 : Below w.heap.size w w3 := (hB2.alloc (by omega) _).grown hgr (by simp; omega) (fun q hq => by have := (HO2.out.lt q hq).1; omega)
            have hz4 := hb4.size
            refine ⟨k + 1, by go_num, by omega, ⟨X ++ [wrap64 (wrap64 (64 * g) + k)], ?_, by rw [← HX.out, HS.out]; simp, by simp; omega⟩, ?_, ?_, by omega, hb5⟩
            · show World.ownsRow _ _ _ _ _ _ _
              rw [List.length_append, List.map_append]
              exact hown'
            · rw [hb4.cell (by show w.heap.size < _; omega), hk2 _ _ (by omega)]; exact e0
            · rw [hb4.cell (by show w.heap.size < _; omega), hk2 _ _ (by omega)]; exact e1
          case measure => simp [intOf]; omega
      · obtain rfl : k = l.length := by omega
        go_wp2
        go_ret
        refine ⟨_, rfl, ?_, hB⟩
        rw [HN.out, ← HX.out, List.drop_length]
        simpa [hanF] using hown.mono (by omega)
  · have hc1 : (chkN (l, fr) == 0) = false := by simpa using hc
    have HC := Lib.hid hc1
    have HN : Hid (hanN (l, fr) = []) := Lib.hid (by unfold hanN; rw [if_neg hc])
    clear hc hc1
    go_enter Try.func28, Try.ntmps28
    go_wp2
    go_loopw [3, 4] (fun u i wr => u = .slice none 0 0 ∧ i = .int .i64 (0 : Nat) ∧ wr.cell? ⟨w.heap.size, 0, none⟩ = some (.slice pc l.length cc) ∧ wr.cell? ⟨w.heap.size, 1, none⟩ = some (.slice pf fr.length cf) ∧ w.heap.size < wr.heap.size ∧ Below w.heap.size w wr) (fun _ i _ => l.length - (intOf i).toNat)
    case atStart => exact ⟨rfl, rfl, by simp [go_sem], by simp [go_sem], by simp, by (repeat (first | (with_reducible exact Below.refl _ _) | ((with_reducible refine below_alloc ?_ ?_ _); · (first | omega | (simp; done) | (simp; omega))) | ((with_reducible refine below_setCell ?_ ?_ _); · (first | omega | (simp; done) | (simp; omega))) | (with_reducible refine Below.drew ?_) | (with_reducible refine below_drewN ?_ _) | ((with_reducible refine below_call (by assumption) ?_ ?_); · (first | omega | (simp; done) | (simp; omega)))))⟩
    case round =>
      obtain ⟨rfl, rfl, e0, e1, hsz, hB⟩ := hrel
      by_cases hlt : 0 < l.length
      · have hlt' : ((0 : Nat) : Int) < l.length := by omega
        have hc2 := HC.out
        go_wp2_with (go_at_call 23; refine (refcheck_any _ _ (l, fr) _ (by exact Hv.out.call (by (repeat (first | (with_reducible exact Below.refl _ _) | ((with_reducible refine below_alloc ?_ ?_ _); · (first | omega | (simp; done) | (simp; omega))) | ((with_reducible refine below_setCell ?_ ?_ _); · (first | omega | (simp; done) | (simp; omega))) | (with_reducible refine Below.drew ?_) | (with_reducible refine below_drewN ?_ _) | ((with_reducible refine below_call (by assumption) ?_ ?_); · (first | omega | (simp; done) | (simp; omega))))))) hl hf).mono ?_; rintro e w2 ⟨rfl, hb2⟩; obtain ⟨hk2, hf2, hz2'⟩ := bcellN (n := w.heap.size + 1) (by omega) hb2)
        go_ret
        refine ⟨_, rfl, ?_, by (repeat (first | (with_reducible exact Below.refl _ _) | ((with_reducible refine below_alloc ?_ ?_ _); · (first | omega | (simp; done) | (simp; omega))) | ((with_reducible refine below_setCell ?_ ?_ _); · (first | omega | (simp; done) | (simp; omega))) | (with_reducible refine Below.drew ?_) | (with_reducible refine below_drewN ?_ _) | ((with_reducible refine below_call (by assumption) ?_ ?_); · (first | omega | (simp; done) | (simp; omega)))))⟩
        rw [HN.out]; exact OwnI.nil _ _
      · have hlt' : (l.length : Int) ≤ ((0 : Nat) : Int) := by omega
        go_wp2
        go_ret
        refine ⟨_, rfl, ?_, hB⟩
        rw [HN.out]; exact OwnI.nil _ _

set_option maxRecDepth 100000 in
set_option maxHeartbeats 1000000 in
theorem refused_any (vc vf : Value) (st : St) (w : World) (hv : IsSt w vc vf st) (hl : st.1.length ≤ 1048576) (hf : st.2.length ≤ 1048576) :
    Calls Try.prog 25 #[.agg #[vc, vf]] w fun e w' => e = .returned (.int .i64 (hanN st).length) ∧ Below w.heap.size w w' := by
  obtain ⟨l, fr⟩ := st
  have hv0 := hv
  obtain ⟨⟨pc, cc, rfl, hp⟩, ⟨pf, cf, rfl, hq⟩⟩ := hv
  have Hv := Lib.hid hv0
  clear hp hq hv0
  go_enter Try.func25, Try.ntmps25
  go_wp2_with (go_at_call 28; refine (refhan_any _ _ (l, fr) _ (by exact Hv.out.call (by (repeat (first | (with_reducible exact Below.refl _ _) | ((with_reducible refine below_alloc ?_ ?_ _); · (first | omega | (simp; done) | (simp; omega))) | ((with_reducible refine below_setCell ?_ ?_ _); · (first | omega | (simp; done) | (simp; omega))) | (with_reducible refine Below.drew ?_) | (with_reducible refine below_drewN ?_ _) | ((with_reducible refine below_call (by assumption) ?_ ?_); · (first | omega | (simp; done) | (simp; omega))))))) hl hf).mono ?_; rintro e w1 ⟨v, rfl, hown, hb1⟩; obtain ⟨ao, cp, rfl⟩ := row_shape3 hown; have hb2 := hb1.size)
  go_ret
  exact ⟨rfl, by (repeat (first | (with_reducible exact Below.refl _ _) | ((with_reducible refine below_alloc ?_ ?_ _); · (first | omega | (simp; done) | (simp; omega))) | ((with_reducible refine below_setCell ?_ ?_ _); · (first | omega | (simp; done) | (simp; omega))) | (with_reducible refine Below.drew ?_) | (with_reducible refine below_drewN ?_ _) | ((with_reducible refine below_call (by assumption) ?_ ?_); · (first | omega | (simp; done) | (simp; omega)))))⟩
end Go.Proofs.Ytmnlpmfkoammhaa
