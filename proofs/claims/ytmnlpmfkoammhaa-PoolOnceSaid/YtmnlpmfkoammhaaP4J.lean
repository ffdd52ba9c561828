/- Contracts of layer 3, the program's: Get, Handles, Used. -/
import Derived.Test.YtmnlpmfkoammhaaP4I
import Derived.Test.YtmnlpmfkoammhaaP3G
namespace Go.Proofs.Ytmnlpmfkoammhaa
open Go.RowKit
set_option linter.unusedVariables false
set_option linter.unusedSimpArgs false

theorem findN_no1 {st : St} {h : Int} (hc : chkN st ≠ 0) : findN st h = (0, chkN st) := by unfold findN; rw [if_pos hc]
theorem findN_no2 {st : St} {h : Int} (hc : chkN st = 0) (hp : placeN st.1 h = -1) : findN st h = (0, 6) := by unfold findN; rw [if_neg (fun x => x hc), hp]; rfl
theorem findN_yes {st : St} {h : Int} {k : Nat} (hc : chkN st = 0) (hp : placeN st.1 h = k) : findN st h = ((k : Int), 0) := by unfold findN; rw [if_neg (fun x => x hc), hp, if_neg (by omega)]

set_option maxRecDepth 100000 in
set_option maxHeartbeats 2000000 in
theorem get_any (vc vf : Value) (st : St) (h : Int) (w : World) (hv : IsSt w vc vf st) (hl : st.1.length ≤ 1048576) (hf : st.2.length ≤ 1048576) :
    Calls Try.prog 18 #[.agg #[vc, vf], .int .i64 h] w fun e w' => e = .returned (.tuple #[.int .i64 (getN st h).1, .bool (getN st h).2]) ∧ Below w.heap.size w w' := by
  obtain ⟨l, fr⟩ := st
  replace hl : l.length ≤ 1048576 := hl
  replace hf : fr.length ≤ 1048576 := hf
  have hv0 := hv
  obtain ⟨⟨pc, cc, rfl, hp⟩, ⟨pf, cf, rfl, hq⟩⟩ := hv
  have Hp := Lib.hid hp
  have Hv := Lib.hid hv0
  clear hp hq hv0
  have cf := fun (W : World) (hb : Below w.heap.size w W) => find_any (.slice pc l.length cc) (.slice pf fr.length cf) (l, fr) h W (Hv.out.call hb) hl hf
  by_cases hc : chkN (l, fr) = 0
  · rcases placeN_bd l h with hpl | hpl
    · rw [findN_no2 (st := (l, fr)) hc hpl] at cf
      have HN := Lib.hid (getN_no2 (st := (l, fr)) hpl)
      clear hpl hc
      go_enter Try.func18, Try.ntmps18
      go_wp2_with (go_at_call 34; refine (cf _ (by (repeat (first | (with_reducible exact Below.refl _ _) | ((with_reducible refine below_alloc ?_ ?_ _); · (first | omega | (simp; done) | (simp; omega))) | ((with_reducible refine below_setCell ?_ ?_ _); · (first | omega | (simp; done) | (simp; omega))) | (with_reducible refine Below.drew ?_) | (with_reducible refine below_drewN ?_ _) | ((with_reducible refine below_call (by assumption) ?_ ?_); · (first | omega | (simp; done) | (simp; omega))))))).mono ?_; rintro e w2 ⟨rfl, hb2⟩; obtain ⟨hk2, hf2, hz2⟩ := bcellN (n := w.heap.size + 1) (by (try simp only [World.size_drew, World.size_alloc, World.size_setCell]); omega) hb2; have hz2_0 : w.heap.size < w2.heap.size := (by omega))
      go_ret2
      exact ⟨(ret_get HN.out).symm, by (repeat (first | (with_reducible exact Below.refl _ _) | ((with_reducible refine below_alloc ?_ ?_ _); · (first | omega | (simp; done) | (simp; omega))) | ((with_reducible refine below_setCell ?_ ?_ _); · (first | omega | (simp; done) | (simp; omega))) | (with_reducible refine Below.drew ?_) | (with_reducible refine below_drewN ?_ _) | ((with_reducible refine below_call (by assumption) ?_ ?_); · (first | omega | (simp; done) | (simp; omega)))))⟩
    · obtain ⟨k, hk⟩ : ∃ k : Nat, placeN l h = k := ⟨(placeN l h).toNat, by omega⟩
      have hkl : k < l.length := by omega
      have hkl' : (k : Int) < l.length := by omega
      rw [findN_yes (st := (l, fr)) hc hk] at cf
      have HN := Lib.hid (getN_yes (st := (l, fr)) hc hk hkl)
      clear hpl hk hc
      obtain ⟨b, off, rfl, d0, d1, d2⟩ := Hp.out k hkl
      have HD := Lib.hid d2
      clear d0 d1 d2
      go_enter Try.func18, Try.ntmps18
      go_wp2_with (go_at_call 34; refine (cf _ (by (repeat (first | (with_reducible exact Below.refl _ _) | ((with_reducible refine below_alloc ?_ ?_ _); · (first | omega | (simp; done) | (simp; omega))) | ((with_reducible refine below_setCell ?_ ?_ _); · (first | omega | (simp; done) | (simp; omega))) | (with_reducible refine Below.drew ?_) | (with_reducible refine below_drewN ?_ _) | ((with_reducible refine below_call (by assumption) ?_ ?_); · (first | omega | (simp; done) | (simp; omega))))))).mono ?_; rintro e w2 ⟨rfl, hb2⟩; obtain ⟨hk2, hf2, hz2⟩ := bcellN (n := w.heap.size + 1) (by (try simp only [World.size_drew, World.size_alloc, World.size_setCell]); omega) hb2; have hz2_0 : w.heap.size < w2.heap.size := (by omega); have hB2 : Below w.heap.size w w2 := (by (repeat (first | (with_reducible exact Below.refl _ _) | ((with_reducible refine below_alloc ?_ ?_ _); · (first | omega | (simp; done) | (simp; omega))) | ((with_reducible refine below_setCell ?_ ?_ _); · (first | omega | (simp; done) | (simp; omega))) | (with_reducible refine Below.drew ?_) | (with_reducible refine below_drewN ?_ _) | ((with_reducible refine below_call (by assumption) ?_ ?_); · (first | omega | (simp; done) | (simp; omega)))))); have d2 := (hB2.cell (p := ⟨b, off + k * 3 + 2, none⟩) (World.block_lt_of_cell? _ _ HD.out)).trans HD.out)
      go_ret2
      exact ⟨(ret_get HN.out).symm, by (repeat (first | (with_reducible exact Below.refl _ _) | ((with_reducible refine below_alloc ?_ ?_ _); · (first | omega | (simp; done) | (simp; omega))) | ((with_reducible refine below_setCell ?_ ?_ _); · (first | omega | (simp; done) | (simp; omega))) | (with_reducible refine Below.drew ?_) | (with_reducible refine below_drewN ?_ _) | ((with_reducible refine below_call (by assumption) ?_ ?_); · (first | omega | (simp; done) | (simp; omega)))))⟩
  · have hc1 : (chkN (l, fr) != 0) = true := by simpa using hc
    rw [findN_no1 (st := (l, fr)) hc] at cf
    have HN := Lib.hid (getN_no1 (h := h) hc)
    clear hc
    go_enter Try.func18, Try.ntmps18
    go_wp2_with (go_at_call 34; refine (cf _ (by (repeat (first | (with_reducible exact Below.refl _ _) | ((with_reducible refine below_alloc ?_ ?_ _); · (first | omega | (simp; done) | (simp; omega))) | ((with_reducible refine below_setCell ?_ ?_ _); · (first | omega | (simp; done) | (simp; omega))) | (with_reducible refine Below.drew ?_) | (with_reducible refine below_drewN ?_ _) | ((with_reducible refine below_call (by assumption) ?_ ?_); · (first | omega | (simp; done) | (simp; omega))))))).mono ?_; rintro e w2 ⟨rfl, hb2⟩; obtain ⟨hk2, hf2, hz2⟩ := bcellN (n := w.heap.size + 1) (by (try simp only [World.size_drew, World.size_alloc, World.size_setCell]); omega) hb2; have hz2_0 : w.heap.size < w2.heap.size := (by omega))
    go_ret2
    exact ⟨(ret_get HN.out).symm, by (repeat (first | (with_reducible exact Below.refl _ _) | ((with_reducible refine below_alloc ?_ ?_ _); · (first | omega | (simp; done) | (simp; omega))) | ((with_reducible refine below_setCell ?_ ?_ _); · (first | omega | (simp; done) | (simp; omega))) | (with_reducible refine Below.drew ?_) | (with_reducible refine below_drewN ?_ _) | ((with_reducible refine below_call (by assumption) ?_ ?_); · (first | omega | (simp; done) | (simp; omega)))))⟩

set_option maxRecDepth 100000 in
set_option maxHeartbeats 4000000 in
theorem han_any (vc vf : Value) (st : St) (w : World) (hv : IsSt w vc vf st) (hl : st.1.length ≤ 1048576) (hf : st.2.length ≤ 1048576) :
    Calls Try.prog 27 #[.agg #[vc, vf]] w fun e w' => ∃ v, e = .returned v ∧ OwnI w' w.heap.size v (hanN st) ∧ Below w.heap.size w w' := by
  obtain ⟨i0, hi, hj0, hj1, hj2⟩ := info_parts info_int
  obtain ⟨l, fr⟩ := st
  replace hl : l.length ≤ 1048576 := hl
  replace hf : fr.length ≤ 1048576 := hf
  have hv0 := hv
  obtain ⟨⟨pc, cc, rfl, hp⟩, ⟨pf, cf, rfl, hq⟩⟩ := hv
  have Hp := Lib.hid hp
  have Hv := Lib.hid hv0
  clear hp hq hv0
  have ck := fun (W : World) (hb : Below w.heap.size w W) => check_any (.slice pc l.length cc) (.slice pf fr.length cf) (l, fr) W (Hv.out.call hb) hl hf
  by_cases hc : chkN (l, fr) = 0
  · rw [hc] at ck
    have HN : Hid (hanN (l, fr) = hanF l 0) := Lib.hid (by unfold hanN; rw [if_pos hc])
    clear hc
    go_enter Try.func27, Try.ntmps27
    go_wp2_with (go_at_call 22; refine (ck _ (by (repeat (first | (with_reducible exact Below.refl _ _) | ((with_reducible refine below_alloc ?_ ?_ _); · (first | omega | (simp; done) | (simp; omega))) | ((with_reducible refine below_setCell ?_ ?_ _); · (first | omega | (simp; done) | (simp; omega))) | (with_reducible refine Below.drew ?_) | (with_reducible refine below_drewN ?_ _) | ((with_reducible refine below_call (by assumption) ?_ ?_); · (first | omega | (simp; done) | (simp; omega))))))).mono ?_; rintro e w2 ⟨rfl, hb2⟩; obtain ⟨hk2, hf2, hz2⟩ := bcellN (n := w.heap.size + 1) (by (try simp only [World.size_drew, World.size_alloc, World.size_setCell]); omega) hb2; have hz2_0 : w.heap.size < w2.heap.size := (by omega))
    have hB2 : Below w.heap.size w w2 := by (repeat (first | (with_reducible exact Below.refl _ _) | ((with_reducible refine below_alloc ?_ ?_ _); · (first | omega | (simp; done) | (simp; omega))) | ((with_reducible refine below_setCell ?_ ?_ _); · (first | omega | (simp; done) | (simp; omega))) | (with_reducible refine Below.drew ?_) | (with_reducible refine below_drewN ?_ _) | ((with_reducible refine below_call (by assumption) ?_ ?_); · (first | omega | (simp; done) | (simp; omega)))))
    go_loopw [3, 12] (fun u i wr => ∃ k : Nat, i = .int .i64 k ∧ k ≤ l.length ∧ (∃ X : List Int, OwnI wr (w.heap.size + 1) u X ∧ X ++ hanF (l.drop k) k = hanF l 0 ∧ X.length ≤ k) ∧ w.heap.size < wr.heap.size ∧ Below w.heap.size w wr) (fun _ i _ => l.length - (intOf i).toNat)
    case atStart => exact ⟨0, rfl, by omega, ⟨[], OwnI.nil _ _, rfl, Nat.le_refl _⟩, by omega, hB2⟩
    case round =>
      obtain ⟨k, rfl, hk, ⟨X, hown, hX, hXk⟩, hsz, hB⟩ := hrel
      have HX := Lib.hid hX
      clear hX
      by_cases hlt : k < l.length
      · have hlt' : (k : Int) < l.length := by omega
        obtain ⟨b, off, rfl, d0, d1, d2⟩ := Hp.out k hlt
        have c0 := (hB.cell (p := ⟨b, off + k * 3, none⟩) (World.block_lt_of_cell? _ _ d0)).trans d0
        have c1 := (hB.cell (p := ⟨b, off + k * 3 + 1, none⟩) (World.block_lt_of_cell? _ _ d1)).trans d1
        have c2 := (hB.cell (p := ⟨b, off + k * 3 + 2, none⟩) (World.block_lt_of_cell? _ _ d2)).trans d2
        have hbw : b < wr.heap.size := World.block_lt_of_cell? _ _ c0
        have hstep := hanF_drop l k hlt
        obtain ⟨g, hg⟩ : ∃ g, l[k].1 = g := ⟨_, rfl⟩
        obtain ⟨v, hv⟩ : ∃ v, l[k].2.1 = v := ⟨_, rfl⟩
        obtain ⟨x, hx⟩ : ∃ x, l[k].2.2 = x := ⟨_, rfl⟩
        rw [hg] at c0 hstep
        rw [hv] at c1 hstep
        rw [hx] at c2
        have HS := Lib.hid hstep
        obtain ⟨ao, cp, hve⟩ := row_shape3 (E := 3) hown
        subst hve
        have HO := Lib.hid hown
        clear hstep hg hv hx d0 d1 d2 hown
        cases v
        · go_wp2
          go_roundw
          case rel =>
            exact ⟨k + 1, by go_num, by omega, ⟨X, HO.out.call ((Below.refl _ _).alloc (Nat.le_refl _) _), by rw [← HX.out, HS.out]; rfl, by omega⟩, by simp; omega, by (repeat (first | (with_reducible exact Below.refl _ _) | ((with_reducible refine below_alloc ?_ ?_ _); · (first | omega | (simp; done) | (simp; omega))) | ((with_reducible refine below_setCell ?_ ?_ _); · (first | omega | (simp; done) | (simp; omega))) | (with_reducible refine Below.drew ?_) | (with_reducible refine below_drewN ?_ _) | ((with_reducible refine below_call (by assumption) ?_ ?_); · (first | omega | (simp; done) | (simp; omega)))))⟩
          case measure => simp [intOf]; omega
        · go_wp2_with (first | (go_at_call 32; refine (hand_any g k _).mono ?_; rintro e w3 ⟨rfl, hb3⟩; have hR3 : Below wr.heap.size wr w3 := (by (repeat (first | (with_reducible exact Below.refl _ _) | ((with_reducible refine below_alloc ?_ ?_ _); · (first | omega | (simp; done) | (simp; omega))) | ((with_reducible refine below_setCell ?_ ?_ _); · (first | omega | (simp; done) | (simp; omega))) | (with_reducible refine Below.drew ?_) | (with_reducible refine below_drewN ?_ _) | ((with_reducible refine below_call (by assumption) ?_ ?_); · (first | omega | (simp; done) | (simp; omega)))))); have hB3 : Below w.heap.size w w3 := (by (repeat (first | (with_reducible exact Below.refl _ _) | ((with_reducible refine below_alloc ?_ ?_ _); · (first | omega | (simp; done) | (simp; omega))) | ((with_reducible refine below_setCell ?_ ?_ _); · (first | omega | (simp; done) | (simp; omega))) | (with_reducible refine Below.drew ?_) | (with_reducible refine below_drewN ?_ _) | ((with_reducible refine below_call (by assumption) ?_ ?_); · (first | omega | (simp; done) | (simp; omega)))))); have HO3 := Lib.hid (HO.out.call hR3); have hz3 := hR3.size) | (at_builtin; refine wpList_append_own _ rfl _ _ 23 rfl (w.heap.size + 1) 3 i0 (.int .i64 0) 1 8 Try.underlying23 hi hj0 hj1 hj2 rfl (by decide) _ X.length (X.map (Value.int .i64)) rfl (HO3.out.alloc _) ⟨w3.heap.size, 0, none⟩ 1 1 [Value.int .i64 (wrap64 (wrap64 (64 * g) + k))] rfl rfl (cell_one_new _ _ _) (by simp [Value.oneCell']) (by unfold maxLen; omega) (by omega) (by simp; omega) ?_; intro v' w4 hown' hgr _))
          go_roundw
          case rel =>
            have hb5 : Below w.heap.size w w4 := (hB3.alloc (by omega) _).grown hgr (by simp; omega) (fun q hq => by have := (HO3.out.lt q hq).1; omega)
            have hb6 : Below w.heap.size w3 w4 := ((Below.refl _ _).alloc (by omega) _).grown hgr (by simp; omega) (fun q hq => by have := (HO3.out.lt q hq).1; omega)
            have hz4 := hb6.size
            refine ⟨k + 1, by go_num, by omega, ⟨X ++ [wrap64 (wrap64 (64 * g) + k)], ?_, by rw [← HX.out, HS.out]; simp, by simp; omega⟩, by omega, hb5⟩
            show World.ownsRow _ _ _ _ _ _ _
            rw [List.length_append, List.map_append]
            exact hown'
          case measure => simp [intOf]; omega
      · obtain rfl : k = l.length := by omega
        go_wp2
        go_ret
        refine ⟨_, rfl, ?_, hB⟩
        rw [HN.out, ← HX.out, List.drop_length]
        simpa [hanF] using hown.mono (by omega)
  · have hc1 : (chkN (l, fr) != 0) = true := by simpa using hc
    have HC := Lib.hid hc1
    have HN : Hid (hanN (l, fr) = []) := Lib.hid (by unfold hanN; rw [if_neg hc])
    clear hc
    go_enter Try.func27, Try.ntmps27
    go_wp2_with (go_at_call 22; refine (ck _ (by (repeat (first | (with_reducible exact Below.refl _ _) | ((with_reducible refine below_alloc ?_ ?_ _); · (first | omega | (simp; done) | (simp; omega))) | ((with_reducible refine below_setCell ?_ ?_ _); · (first | omega | (simp; done) | (simp; omega))) | (with_reducible refine Below.drew ?_) | (with_reducible refine below_drewN ?_ _) | ((with_reducible refine below_call (by assumption) ?_ ?_); · (first | omega | (simp; done) | (simp; omega))))))).mono ?_; rintro e w2 ⟨rfl, hb2⟩; obtain ⟨hk2, hf2, hz2⟩ := bcellN (n := w.heap.size + 1) (by (try simp only [World.size_drew, World.size_alloc, World.size_setCell]); omega) hb2; have hz2_0 : w.heap.size < w2.heap.size := (by omega))
    go_ret
    refine ⟨_, rfl, ?_, by (repeat (first | (with_reducible exact Below.refl _ _) | ((with_reducible refine below_alloc ?_ ?_ _); · (first | omega | (simp; done) | (simp; omega))) | ((with_reducible refine below_setCell ?_ ?_ _); · (first | omega | (simp; done) | (simp; omega))) | (with_reducible refine Below.drew ?_) | (with_reducible refine below_drewN ?_ _) | ((with_reducible refine below_call (by assumption) ?_ ?_); · (first | omega | (simp; done) | (simp; omega)))))⟩
    rw [HN.out]; exact OwnI.nil _ _

set_option maxRecDepth 100000 in
set_option maxHeartbeats 1000000 in
theorem used_any (vc vf : Value) (st : St) (w : World) (hv : IsSt w vc vf st) (hl : st.1.length ≤ 1048576) (hf : st.2.length ≤ 1048576) :
    Calls Try.prog 24 #[.agg #[vc, vf]] w fun e w' => e = .returned (.int .i64 (hanN st).length) ∧ Below w.heap.size w w' := by
  obtain ⟨l, fr⟩ := st
  have hv0 := hv
  obtain ⟨⟨pc, cc, rfl, hp⟩, ⟨pf, cf, rfl, hq⟩⟩ := hv
  have Hv := Lib.hid hv0
  clear hp hq hv0
  go_enter Try.func24, Try.ntmps24
  go_wp2_with (go_at_call 27; refine (han_any _ _ (l, fr) _ (by exact Hv.out.call (by (repeat (first | (with_reducible exact Below.refl _ _) | ((with_reducible refine below_alloc ?_ ?_ _); · (first | omega | (simp; done) | (simp; omega))) | ((with_reducible refine below_setCell ?_ ?_ _); · (first | omega | (simp; done) | (simp; omega))) | (with_reducible refine Below.drew ?_) | (with_reducible refine below_drewN ?_ _) | ((with_reducible refine below_call (by assumption) ?_ ?_); · (first | omega | (simp; done) | (simp; omega))))))) hl hf).mono ?_; rintro e w1 ⟨v, rfl, hown, hb1⟩; obtain ⟨ao, cp, rfl⟩ := row_shape3 hown; have hb2 := hb1.size)
  go_ret
  exact ⟨rfl, by (repeat (first | (with_reducible exact Below.refl _ _) | ((with_reducible refine below_alloc ?_ ?_ _); · (first | omega | (simp; done) | (simp; omega))) | ((with_reducible refine below_setCell ?_ ?_ _); · (first | omega | (simp; done) | (simp; omega))) | (with_reducible refine Below.drew ?_) | (with_reducible refine below_drewN ?_ _) | ((with_reducible refine below_call (by assumption) ?_ ?_); · (first | omega | (simp; done) | (simp; omega)))))⟩
end Go.Proofs.Ytmnlpmfkoammhaa
