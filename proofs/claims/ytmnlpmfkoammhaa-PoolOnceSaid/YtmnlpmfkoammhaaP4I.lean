/- Contracts of layer 3, the program's: where a handle leads. -/
import Derived.Test.YtmnlpmfkoammhaaP4H
namespace Go.Proofs.Ytmnlpmfkoammhaa
open Go.RowKit
set_option linter.unusedVariables false
set_option linter.unusedSimpArgs false

/-- the place that the program looks at is the one of a live cell with that handle, or there is none -/
theorem find_neg {st : St} (h : OkSt st) {x : Int} (hx : x < 0) : placeN st.1 x = -1 := by
  refine place_no h (fun k hk hl e => ?_)
  have := (h.2.2.1 k hk).1
  omega
theorem find_far {st : St} (h : OkSt st) {x r : Int} (h0 : 0 ≤ x) (hr : r = x % 64) (hfar : (st.1.length : Int) ≤ r) : placeN st.1 x = -1 := by
  have h2 := h.2.1
  refine place_no h (fun k hk hl e => ?_)
  have := (h.2.2.1 k hk).1
  omega
theorem find_dead {st : St} (h : OkSt st) {x : Int} {r : Nat} (h0 : 0 ≤ x) (hr : (r : Int) = x % 64) (hlt : r < st.1.length) (hl : (celAt st.1 r).2.1 = false) : placeN st.1 x = -1 := by
  have h2 := h.2.1
  refine place_no h (fun k hk hlk e => ?_)
  have := (h.2.2.1 k hk).1
  obtain rfl : k = r := by omega
  rw [hl] at hlk; cases hlk
theorem find_other {st : St} (h : OkSt st) {x : Int} {r : Nat} (h0 : 0 ≤ x) (hr : (r : Int) = x % 64) (hlt : r < st.1.length) (hne : wrap64 (wrap64 (64 * (celAt st.1 r).1) + r) ≠ x) : placeN st.1 x = -1 := by
  have h2 := h.2.1
  refine place_no h (fun k hk hlk e => ?_)
  have h3 := h.2.2.1 k hk
  obtain rfl : k = r := by omega
  rw [hand_eq h3.1 h3.2.1 (by omega)] at hne
  exact hne e
theorem find_at {st : St} (h : OkSt st) {x : Int} {r : Nat} (hlt : r < st.1.length) (hl : (celAt st.1 r).2.1 = true) (he : wrap64 (wrap64 (64 * (celAt st.1 r).1) + r) = x) : placeN st.1 x = r := by
  have h2 := h.2.1
  have h3 := h.2.2.1 r hlt
  rw [hand_eq h3.1 h3.2.1 (by omega)] at he
  rw [← he]; exact place_yes h hlt hl

/-- what find tells -/
def findN (st : St) (h : Int) : Int × Int := if chkN st ≠ 0 then (0, chkN st) else if placeN st.1 h < 0 then (0, 6) else (placeN st.1 h, 0)
theorem ret_find {a b : Int × Int} (h : a = b) : Ending.returned (.tuple #[.int .i64 a.1, .int .i64 a.2]) = Ending.returned (.tuple #[.int .i64 b.1, .int .i64 b.2]) := by rw [h]

set_option maxRecDepth 100000 in
set_option maxHeartbeats 4000000 in
theorem find_any (vc vf : Value) (st : St) (h : Int) (w : World) (hv : IsSt w vc vf st) (hl : st.1.length ≤ 1048576) (hf : st.2.length ≤ 1048576) :
    Calls Try.prog 34 #[.agg #[vc, vf], .int .i64 h] w fun e w' => e = .returned (.tuple #[.int .i64 (findN st h).1, .int .i64 (findN st h).2]) ∧ Below w.heap.size w w' := by
  obtain ⟨l, fr⟩ := st
  replace hl : l.length ≤ 1048576 := hl
  replace hf : fr.length ≤ 1048576 := hf
  have hv0 := hv
  obtain ⟨⟨pc, cc, rfl, hp⟩, ⟨pf, cf, rfl, hq⟩⟩ := hv
  have Hp := Lib.hid hp
  have Hv := Lib.hid hv0
  clear hp hq hv0
  have c1 := fun (W : World) (hb : Below w.heap.size w W) => check_any (.slice pc l.length cc) (.slice pf fr.length cf) (l, fr) W (Hv.out.call hb) hl hf
  by_cases hc : chkN (l, fr) = 0
  · rw [hc] at c1
    have ok := chk_iff.1 hc
    have OK := Lib.hid ok
    have FN : ∀ p, placeN l h = p → findN (l, fr) h = if p < 0 then (0, 6) else (p, 0) := fun p hp => by
      unfold findN; rw [if_neg (fun x => x hc)]; show (if placeN l h < 0 then _ else _) = _; rw [hp]
    have HF := Lib.hid FN
    clear hc ok FN
    by_cases hn : h < 0
    · have HN : Hid (findN (l, fr) h = (0, 6)) := Lib.hid (by rw [HF.out _ (find_neg (st := (l, fr)) OK.out hn)]; rfl)
      go_enter Try.func34, Try.ntmps34
      go_wp2_with (go_at_call 22; refine (c1 _ (by (repeat (first | (with_reducible exact Below.refl _ _) | ((with_reducible refine below_alloc ?_ ?_ _); · (first | omega | (simp; done) | (simp; omega))) | ((with_reducible refine below_setCell ?_ ?_ _); · (first | omega | (simp; done) | (simp; omega))) | (with_reducible refine Below.drew ?_) | (with_reducible refine below_drewN ?_ _) | ((with_reducible refine below_call (by assumption) ?_ ?_); · (first | omega | (simp; done) | (simp; omega))))))).mono ?_; rintro e w2 ⟨rfl, hb2⟩; obtain ⟨hk2, hf2, hz2⟩ := bcellN (n := w.heap.size + 1) (by (try simp only [World.size_drew, World.size_alloc, World.size_setCell]); omega) hb2; have hz2_0 : w.heap.size < w2.heap.size := (by omega))
      go_ret2
      exact ⟨(ret_find HN.out).symm, by (repeat (first | (with_reducible exact Below.refl _ _) | ((with_reducible refine below_alloc ?_ ?_ _); · (first | omega | (simp; done) | (simp; omega))) | ((with_reducible refine below_setCell ?_ ?_ _); · (first | omega | (simp; done) | (simp; omega))) | (with_reducible refine Below.drew ?_) | (with_reducible refine below_drewN ?_ _) | ((with_reducible refine below_call (by assumption) ?_ ?_); · (first | omega | (simp; done) | (simp; omega)))))⟩
    · have hn' : 0 ≤ h := by omega
      obtain ⟨r, hr⟩ : ∃ r : Nat, (r : Int) = h % 64 := ⟨(h % 64).toNat, by omega⟩
      have htm : Int.tmod h 64 = (r : Int) := by rw [hr]; exact Int.tmod_eq_emod_of_nonneg hn'
      have hr0 : (0 : Int) ≤ r := by omega
      have HR := Lib.hid hr
      clear hn hr
      by_cases hge : l.length ≤ r
      · have hge' : (l.length : Int) ≤ r := by omega
        have HN : Hid (findN (l, fr) h = (0, 6)) := Lib.hid (by rw [HF.out _ (find_far (st := (l, fr)) OK.out hn' HR.out hge')]; rfl)
        go_enter Try.func34, Try.ntmps34
        go_wp2_with (go_at_call 22; refine (c1 _ (by (repeat (first | (with_reducible exact Below.refl _ _) | ((with_reducible refine below_alloc ?_ ?_ _); · (first | omega | (simp; done) | (simp; omega))) | ((with_reducible refine below_setCell ?_ ?_ _); · (first | omega | (simp; done) | (simp; omega))) | (with_reducible refine Below.drew ?_) | (with_reducible refine below_drewN ?_ _) | ((with_reducible refine below_call (by assumption) ?_ ?_); · (first | omega | (simp; done) | (simp; omega))))))).mono ?_; rintro e w2 ⟨rfl, hb2⟩; obtain ⟨hk2, hf2, hz2⟩ := bcellN (n := w.heap.size + 1) (by (try simp only [World.size_drew, World.size_alloc, World.size_setCell]); omega) hb2; have hz2_0 : w.heap.size < w2.heap.size := (by omega))
        go_ret2
        exact ⟨(ret_find HN.out).symm, by (repeat (first | (with_reducible exact Below.refl _ _) | ((with_reducible refine below_alloc ?_ ?_ _); · (first | omega | (simp; done) | (simp; omega))) | ((with_reducible refine below_setCell ?_ ?_ _); · (first | omega | (simp; done) | (simp; omega))) | (with_reducible refine Below.drew ?_) | (with_reducible refine below_drewN ?_ _) | ((with_reducible refine below_call (by assumption) ?_ ?_); · (first | omega | (simp; done) | (simp; omega)))))⟩
      · have hlt : r < l.length := by omega
        have hlt' : (r : Int) < l.length := by omega
        have hdn2 : decide (l.length ≤ r) = false := by simp; omega
        clear hge
        obtain ⟨b, off, rfl, d0, d1, d2⟩ := Hp.out r hlt
        have hca := celAt_lt l r hlt
        obtain ⟨g, hg⟩ : ∃ g, l[r].1 = g := ⟨_, rfl⟩
        obtain ⟨v, hv⟩ : ∃ v, l[r].2.1 = v := ⟨_, rfl⟩
        rw [hg] at d0
        rw [hv] at d1
        have hg2 : (celAt l r).1 = g := by rw [hca]; exact hg
        have hv2 : (celAt l r).2.1 = v := by rw [hca]; exact hv
        have HC := Lib.hid (And.intro hg2 hv2)
        have HD := Lib.hid (And.intro d0 d1)
        clear d0 d1 d2 hca hg hv hg2 hv2
        cases v
        · have HN : Hid (findN (l, fr) h = (0, 6)) := Lib.hid (by rw [HF.out _ (find_dead (st := (l, fr)) OK.out hn' HR.out hlt HC.out.2)]; rfl)
          go_enter Try.func34, Try.ntmps34
          go_wp2_with (go_at_call 22; refine (c1 _ (by (repeat (first | (with_reducible exact Below.refl _ _) | ((with_reducible refine below_alloc ?_ ?_ _); · (first | omega | (simp; done) | (simp; omega))) | ((with_reducible refine below_setCell ?_ ?_ _); · (first | omega | (simp; done) | (simp; omega))) | (with_reducible refine Below.drew ?_) | (with_reducible refine below_drewN ?_ _) | ((with_reducible refine below_call (by assumption) ?_ ?_); · (first | omega | (simp; done) | (simp; omega))))))).mono ?_; rintro e w2 ⟨rfl, hb2⟩; obtain ⟨hk2, hf2, hz2⟩ := bcellN (n := w.heap.size + 1) (by (try simp only [World.size_drew, World.size_alloc, World.size_setCell]); omega) hb2; have hz2_0 : w.heap.size < w2.heap.size := (by omega); have hB2 : Below w.heap.size w w2 := (by (repeat (first | (with_reducible exact Below.refl _ _) | ((with_reducible refine below_alloc ?_ ?_ _); · (first | omega | (simp; done) | (simp; omega))) | ((with_reducible refine below_setCell ?_ ?_ _); · (first | omega | (simp; done) | (simp; omega))) | (with_reducible refine Below.drew ?_) | (with_reducible refine below_drewN ?_ _) | ((with_reducible refine below_call (by assumption) ?_ ?_); · (first | omega | (simp; done) | (simp; omega)))))); have c0 := (hB2.cell (p := ⟨b, off + r * 3, none⟩) (World.block_lt_of_cell? _ _ HD.out.1)).trans HD.out.1; have c1' := (hB2.cell (p := ⟨b, off + r * 3 + 1, none⟩) (World.block_lt_of_cell? _ _ HD.out.2)).trans HD.out.2)
          go_ret2
          exact ⟨(ret_find HN.out).symm, by (repeat (first | (with_reducible exact Below.refl _ _) | ((with_reducible refine below_alloc ?_ ?_ _); · (first | omega | (simp; done) | (simp; omega))) | ((with_reducible refine below_setCell ?_ ?_ _); · (first | omega | (simp; done) | (simp; omega))) | (with_reducible refine Below.drew ?_) | (with_reducible refine below_drewN ?_ _) | ((with_reducible refine below_call (by assumption) ?_ ?_); · (first | omega | (simp; done) | (simp; omega)))))⟩
        · by_cases he : wrap64 (wrap64 (64 * g) + r) = h
          · have he1 : (wrap64 (wrap64 (64 * g) + r) != h) = false := by simp [he]
            have HN : Hid (findN (l, fr) h = ((r : Int), 0)) := Lib.hid (by rw [HF.out _ (find_at (st := (l, fr)) OK.out hlt HC.out.2 (by show wrap64 (wrap64 (64 * (celAt l r).1) + r) = h; rw [HC.out.1]; exact he)), if_neg (by omega)])
            clear he
            go_enter Try.func34, Try.ntmps34
            go_wp2_with (first | (go_at_call 22; refine (c1 _ (by (repeat (first | (with_reducible exact Below.refl _ _) | ((with_reducible refine below_alloc ?_ ?_ _); · (first | omega | (simp; done) | (simp; omega))) | ((with_reducible refine below_setCell ?_ ?_ _); · (first | omega | (simp; done) | (simp; omega))) | (with_reducible refine Below.drew ?_) | (with_reducible refine below_drewN ?_ _) | ((with_reducible refine below_call (by assumption) ?_ ?_); · (first | omega | (simp; done) | (simp; omega))))))).mono ?_; rintro e w2 ⟨rfl, hb2⟩; obtain ⟨hk2, hf2, hz2⟩ := bcellN (n := w.heap.size + 1) (by (try simp only [World.size_drew, World.size_alloc, World.size_setCell]); omega) hb2; have hz2_0 : w.heap.size < w2.heap.size := (by omega); have hB2 : Below w.heap.size w w2 := (by (repeat (first | (with_reducible exact Below.refl _ _) | ((with_reducible refine below_alloc ?_ ?_ _); · (first | omega | (simp; done) | (simp; omega))) | ((with_reducible refine below_setCell ?_ ?_ _); · (first | omega | (simp; done) | (simp; omega))) | (with_reducible refine Below.drew ?_) | (with_reducible refine below_drewN ?_ _) | ((with_reducible refine below_call (by assumption) ?_ ?_); · (first | omega | (simp; done) | (simp; omega)))))); have c0 := (hB2.cell (p := ⟨b, off + r * 3, none⟩) (World.block_lt_of_cell? _ _ HD.out.1)).trans HD.out.1; have c1' := (hB2.cell (p := ⟨b, off + r * 3 + 1, none⟩) (World.block_lt_of_cell? _ _ HD.out.2)).trans HD.out.2) | (go_at_call 32; refine (hand_any g r _).mono ?_; rintro e w3 ⟨rfl, hb3⟩))
            go_ret2
            exact ⟨(ret_find HN.out).symm, by (repeat (first | (with_reducible exact Below.refl _ _) | ((with_reducible refine below_alloc ?_ ?_ _); · (first | omega | (simp; done) | (simp; omega))) | ((with_reducible refine below_setCell ?_ ?_ _); · (first | omega | (simp; done) | (simp; omega))) | (with_reducible refine Below.drew ?_) | (with_reducible refine below_drewN ?_ _) | ((with_reducible refine below_call (by assumption) ?_ ?_); · (first | omega | (simp; done) | (simp; omega)))))⟩
          · have he1 : (wrap64 (wrap64 (64 * g) + r) != h) = true := by simpa using he
            have HN : Hid (findN (l, fr) h = (0, 6)) := Lib.hid (by rw [HF.out _ (find_other (st := (l, fr)) OK.out hn' HR.out hlt (by show wrap64 (wrap64 (64 * (celAt l r).1) + r) ≠ h; rw [HC.out.1]; exact he))]; rfl)
            clear he
            go_enter Try.func34, Try.ntmps34
            go_wp2_with (first | (go_at_call 22; refine (c1 _ (by (repeat (first | (with_reducible exact Below.refl _ _) | ((with_reducible refine below_alloc ?_ ?_ _); · (first | omega | (simp; done) | (simp; omega))) | ((with_reducible refine below_setCell ?_ ?_ _); · (first | omega | (simp; done) | (simp; omega))) | (with_reducible refine Below.drew ?_) | (with_reducible refine below_drewN ?_ _) | ((with_reducible refine below_call (by assumption) ?_ ?_); · (first | omega | (simp; done) | (simp; omega))))))).mono ?_; rintro e w2 ⟨rfl, hb2⟩; obtain ⟨hk2, hf2, hz2⟩ := bcellN (n := w.heap.size + 1) (by (try simp only [World.size_drew, World.size_alloc, World.size_setCell]); omega) hb2; have hz2_0 : w.heap.size < w2.heap.size := (by omega); have hB2 : Below w.heap.size w w2 := (by (repeat (first | (with_reducible exact Below.refl _ _) | ((with_reducible refine below_alloc ?_ ?_ _); · (first | omega | (simp; done) | (simp; omega))) | ((with_reducible refine below_setCell ?_ ?_ _); · (first | omega | (simp; done) | (simp; omega))) | (with_reducible refine Below.drew ?_) | (with_reducible refine below_drewN ?_ _) | ((with_reducible refine below_call (by assumption) ?_ ?_); · (first | omega | (simp; done) | (simp; omega)))))); have c0 := (hB2.cell (p := ⟨b, off + r * 3, none⟩) (World.block_lt_of_cell? _ _ HD.out.1)).trans HD.out.1; have c1' := (hB2.cell (p := ⟨b, off + r * 3 + 1, none⟩) (World.block_lt_of_cell? _ _ HD.out.2)).trans HD.out.2) | (go_at_call 32; refine (hand_any g r _).mono ?_; rintro e w3 ⟨rfl, hb3⟩))
            go_ret2
            exact ⟨(ret_find HN.out).symm, by (repeat (first | (with_reducible exact Below.refl _ _) | ((with_reducible refine below_alloc ?_ ?_ _); · (first | omega | (simp; done) | (simp; omega))) | ((with_reducible refine below_setCell ?_ ?_ _); · (first | omega | (simp; done) | (simp; omega))) | (with_reducible refine Below.drew ?_) | (with_reducible refine below_drewN ?_ _) | ((with_reducible refine below_call (by assumption) ?_ ?_); · (first | omega | (simp; done) | (simp; omega)))))⟩
  · have hc1 : (chkN (l, fr) != 0) = true := by simpa using hc
    have HN : Hid (findN (l, fr) h = (0, chkN (l, fr))) := Lib.hid (by unfold findN; rw [if_pos hc])
    clear hc
    go_enter Try.func34, Try.ntmps34
    go_wp2_with (go_at_call 22; refine (c1 _ (by (repeat (first | (with_reducible exact Below.refl _ _) | ((with_reducible refine below_alloc ?_ ?_ _); · (first | omega | (simp; done) | (simp; omega))) | ((with_reducible refine below_setCell ?_ ?_ _); · (first | omega | (simp; done) | (simp; omega))) | (with_reducible refine Below.drew ?_) | (with_reducible refine below_drewN ?_ _) | ((with_reducible refine below_call (by assumption) ?_ ?_); · (first | omega | (simp; done) | (simp; omega))))))).mono ?_; rintro e w2 ⟨rfl, hb2⟩; obtain ⟨hk2, hf2, hz2⟩ := bcellN (n := w.heap.size + 1) (by (try simp only [World.size_drew, World.size_alloc, World.size_setCell]); omega) hb2; have hz2_0 : w.heap.size < w2.heap.size := (by omega))
    go_ret2
    exact ⟨(ret_find HN.out).symm, by (repeat (first | (with_reducible exact Below.refl _ _) | ((with_reducible refine below_alloc ?_ ?_ _); · (first | omega | (simp; done) | (simp; omega))) | ((with_reducible refine below_setCell ?_ ?_ _); · (first | omega | (simp; done) | (simp; omega))) | (with_reducible refine Below.drew ?_) | (with_reducible refine below_drewN ?_ _) | ((with_reducible refine below_call (by assumption) ?_ ?_); · (first | omega | (simp; done) | (simp; omega)))))⟩
end Go.Proofs.Ytmnlpmfkoammhaa
