/- Contracts of layer 4, the document's: Walk, Len, Front, Back. -/
import Derived.Test.YtkcenadenmkgnaaC4E
namespace Go.Proofs.Ytkcenadenmkgnaa
open Go.RowKit
set_option linter.unusedVariables false
set_option linter.unusedSimpArgs false

theorem chkL_parts {st : LSt} (h : chkL st = 0) : (1 ≤ st.1.length ∧ st.1.length ≤ 64) ∧ (1 ≤ st.2.1.length ∧ st.2.1.length ≤ 8) ∧ st.2.2.length = st.2.1.length ∧ linksB st = true ∧ st.1.any formBad = false ∧ ∀ i, i < st.2.1.length → rightB st i = true := by
  unfold chkL at h
  split at h
  · omega
  · rename_i h1
    split at h
    · omega
    · rename_i h2
      split at h
      · omega
      · rename_i h3
        split at h
        · rename_i h4
          have h1' : lensB st = true := by simpa using h1
          unfold lensB at h1'
          rw [Bool.and_eq_true, Bool.and_eq_true, inB_iff, inB_iff, decide_eq_true_iff] at h1'
          rw [List.all_eq_true] at h4
          exact ⟨by omega, by omega, h1'.2, by simpa using h2, by simpa using h3, fun i hi => h4 i (List.mem_range.2 hi)⟩
        · omega
/-- all places of a list; none, if there is none -/
def walkL (st : LSt) (i : Int) : List Int := if chkL st = 0 ∧ isB st i = true then walkN st i.toNat else []
theorem walkL_len (st : LSt) (i : Int) : (walkL st i).length ≤ st.1.length + 1 := by
  unfold walkL
  split
  · exact walkF_len _ _ _
  · exact Nat.zero_le _

set_option maxRecDepth 100000 in
set_option maxHeartbeats 2000000 in
theorem refwalk_any (vn vh vt : Value) (st : LSt) (i : Int) (w : World) (hv : IsLS w vn vh vt st) (h1 : st.1.length ≤ 1048576) (h2 : st.2.1.length ≤ 1048576) (h3 : st.2.2.length ≤ 1048576) :
    Calls Try.prog 26 #[.agg #[vn, vh, vt], .int .i64 i] w fun e w' => ∃ v, e = .returned v ∧ OwnI w' w.heap.size v (walkL st i) ∧ Below w.heap.size w w' := by
  have HV := Lib.hid hv
  have ck := fun W (h : Below w.heap.size w W) => refchk_any vn vh vt st W (HV.out.call h) h1 h2 h3
  have ci := fun W (h : Below w.heap.size w W) => is_any vn vh vt st i W (HV.out.call h) h2
  have cw := fun k W (h : Below w.heap.size w W) hR hi => walk_any vn vh vt st k W (HV.out.call h) h1 h2 hR hi
  have hp := fun h => chkL_parts (st := st) h
  obtain ⟨l, hd, tl⟩ := st
  obtain ⟨⟨pn, cn, rfl, -⟩, ⟨ph, ch, rfl, -⟩, ⟨pt, ct, rfl, -⟩⟩ := hv
  by_cases hc : chkL (l, hd, tl) = 0
  · rw [hc] at ck
    obtain ⟨-, -, -, hR, -, -⟩ := hp hc
    cases hi : isB (l, hd, tl) i
    · rw [hi] at ci
      have hf : Hid (walkL (l, hd, tl) i = []) := Lib.hid (by unfold walkL; rw [if_neg (by simp [hi])])
      clear hi hR hc hp
      go_enter Try.func26, Try.ntmps26
      go_wp2_with fail
      refine (ck _ (by (repeat (first | (with_reducible exact Below.refl _ _) | ((with_reducible refine below_alloc ?_ ?_ _); · (first | omega | (simp; done) | (simp; omega))) | ((with_reducible refine below_setCell ?_ ?_ _); · (first | omega | (simp; done) | (simp; omega))) | (with_reducible refine Below.drew ?_) | (with_reducible refine below_drewN ?_ _) | ((with_reducible refine below_call (by assumption) ?_ ?_); · (first | omega | (simp; done) | (simp; omega))))))).mono ?_; rintro e w1 ⟨rfl, hb1⟩
      obtain ⟨hk1, hf1, hz1⟩ := bcellN (n := w.heap.size + 1) (by (try simp only [World.size_drew, World.size_alloc, World.size_setCell]); omega) hb1; have hz1_0 : w.heap.size < w1.heap.size := (by omega)
      go_wp2_with fail
      refine (ci _ (by (repeat (first | (with_reducible exact Below.refl _ _) | ((with_reducible refine below_alloc ?_ ?_ _); · (first | omega | (simp; done) | (simp; omega))) | ((with_reducible refine below_setCell ?_ ?_ _); · (first | omega | (simp; done) | (simp; omega))) | (with_reducible refine Below.drew ?_) | (with_reducible refine below_drewN ?_ _) | ((with_reducible refine below_call (by assumption) ?_ ?_); · (first | omega | (simp; done) | (simp; omega))))))).mono ?_; rintro e w2 ⟨rfl, hb2⟩
      obtain ⟨hk2, hf2, hz2⟩ := bcellN (n := w.heap.size + 1) (by (try simp only [World.size_drew, World.size_alloc, World.size_setCell]); omega) hb2; have hz2_0 : w.heap.size < w2.heap.size := (by omega)
      go_wp2_with fail
      go_ret
      exact ⟨_, rfl, by rw [hf.out]; exact OwnI.nil _ _, by (repeat (first | (with_reducible exact Below.refl _ _) | ((with_reducible refine below_alloc ?_ ?_ _); · (first | omega | (simp; done) | (simp; omega))) | ((with_reducible refine below_setCell ?_ ?_ _); · (first | omega | (simp; done) | (simp; omega))) | (with_reducible refine Below.drew ?_) | (with_reducible refine below_drewN ?_ _) | ((with_reducible refine below_call (by assumption) ?_ ?_); · (first | omega | (simp; done) | (simp; omega)))))⟩
    · rw [hi] at ci
      have hi2 := hi
      unfold isB at hi2
      rw [inB_iff] at hi2
      replace hi2 : 0 ≤ i ∧ i ≤ (hd.length : Int) - 1 := hi2
      obtain ⟨k, rfl⟩ : ∃ k : Nat, i = k := ⟨i.toNat, by omega⟩
      have hf : Hid (walkL (l, hd, tl) k = walkN (l, hd, tl) k) := Lib.hid (by unfold walkL; rw [if_pos ⟨hc, hi⟩, Int.toNat_natCast])
      have cc := fun W (h : Below w.heap.size w W) => cw k W h hR (by show k < hd.length; omega)
      clear hi hi2 hR hc hp cw
      go_enter Try.func26, Try.ntmps26
      go_wp2_with fail
      refine (ck _ (by (repeat (first | (with_reducible exact Below.refl _ _) | ((with_reducible refine below_alloc ?_ ?_ _); · (first | omega | (simp; done) | (simp; omega))) | ((with_reducible refine below_setCell ?_ ?_ _); · (first | omega | (simp; done) | (simp; omega))) | (with_reducible refine Below.drew ?_) | (with_reducible refine below_drewN ?_ _) | ((with_reducible refine below_call (by assumption) ?_ ?_); · (first | omega | (simp; done) | (simp; omega))))))).mono ?_; rintro e w1 ⟨rfl, hb1⟩
      obtain ⟨hk1, hf1, hz1⟩ := bcellN (n := w.heap.size + 1) (by (try simp only [World.size_drew, World.size_alloc, World.size_setCell]); omega) hb1; have hz1_0 : w.heap.size < w1.heap.size := (by omega)
      go_wp2_with fail
      refine (ci _ (by (repeat (first | (with_reducible exact Below.refl _ _) | ((with_reducible refine below_alloc ?_ ?_ _); · (first | omega | (simp; done) | (simp; omega))) | ((with_reducible refine below_setCell ?_ ?_ _); · (first | omega | (simp; done) | (simp; omega))) | (with_reducible refine Below.drew ?_) | (with_reducible refine below_drewN ?_ _) | ((with_reducible refine below_call (by assumption) ?_ ?_); · (first | omega | (simp; done) | (simp; omega))))))).mono ?_; rintro e w2 ⟨rfl, hb2⟩
      obtain ⟨hk2, hf2, hz2⟩ := bcellN (n := w.heap.size + 1) (by (try simp only [World.size_drew, World.size_alloc, World.size_setCell]); omega) hb2; have hz2_0 : w.heap.size < w2.heap.size := (by omega)
      go_wp2_with fail
      refine (cc _ (by (repeat (first | (with_reducible exact Below.refl _ _) | ((with_reducible refine below_alloc ?_ ?_ _); · (first | omega | (simp; done) | (simp; omega))) | ((with_reducible refine below_setCell ?_ ?_ _); · (first | omega | (simp; done) | (simp; omega))) | (with_reducible refine Below.drew ?_) | (with_reducible refine below_drewN ?_ _) | ((with_reducible refine below_call (by assumption) ?_ ?_); · (first | omega | (simp; done) | (simp; omega))))))).mono ?_; rintro e w3 ⟨v, rfl, hown, hb3⟩
      go_wp2_with fail
      go_ret
      exact ⟨_, rfl, by rw [hf.out]; exact hown.mono (by omega), by (repeat (first | (with_reducible exact Below.refl _ _) | ((with_reducible refine below_alloc ?_ ?_ _); · (first | omega | (simp; done) | (simp; omega))) | ((with_reducible refine below_setCell ?_ ?_ _); · (first | omega | (simp; done) | (simp; omega))) | (with_reducible refine Below.drew ?_) | (with_reducible refine below_drewN ?_ _) | ((with_reducible refine below_call (by assumption) ?_ ?_); · (first | omega | (simp; done) | (simp; omega)))))⟩
  · have hc1 : (chkL (l, hd, tl) != 0) = true := by simpa using hc
    have hf : Hid (walkL (l, hd, tl) i = []) := Lib.hid (by unfold walkL; rw [if_neg (fun h => hc h.1)])
    clear hc hp
    go_enter Try.func26, Try.ntmps26
    go_wp2_with fail
    refine (ck _ (by (repeat (first | (with_reducible exact Below.refl _ _) | ((with_reducible refine below_alloc ?_ ?_ _); · (first | omega | (simp; done) | (simp; omega))) | ((with_reducible refine below_setCell ?_ ?_ _); · (first | omega | (simp; done) | (simp; omega))) | (with_reducible refine Below.drew ?_) | (with_reducible refine below_drewN ?_ _) | ((with_reducible refine below_call (by assumption) ?_ ?_); · (first | omega | (simp; done) | (simp; omega))))))).mono ?_; rintro e w1 ⟨rfl, hb1⟩
    obtain ⟨hk1, hf1, hz1⟩ := bcellN (n := w.heap.size + 1) (by (try simp only [World.size_drew, World.size_alloc, World.size_setCell]); omega) hb1; have hz1_0 : w.heap.size < w1.heap.size := (by omega)
    go_wp2_with fail
    go_ret
    exact ⟨_, rfl, by rw [hf.out]; exact OwnI.nil _ _, by (repeat (first | (with_reducible exact Below.refl _ _) | ((with_reducible refine below_alloc ?_ ?_ _); · (first | omega | (simp; done) | (simp; omega))) | ((with_reducible refine below_setCell ?_ ?_ _); · (first | omega | (simp; done) | (simp; omega))) | (with_reducible refine Below.drew ?_) | (with_reducible refine below_drewN ?_ _) | ((with_reducible refine below_call (by assumption) ?_ ?_); · (first | omega | (simp; done) | (simp; omega)))))⟩

set_option maxRecDepth 100000 in
set_option maxHeartbeats 1000000 in
theorem reflen_any (vn vh vt : Value) (st : LSt) (i : Int) (w : World) (hv : IsLS w vn vh vt st) (h1 : st.1.length ≤ 1048576) (h2 : st.2.1.length ≤ 1048576) (h3 : st.2.2.length ≤ 1048576) :
    Calls Try.prog 32 #[.agg #[vn, vh, vt], .int .i64 i] w fun e w' => e = .returned (.int .i64 (walkL st i).length) ∧ Below w.heap.size w w' := by
  have HV := Lib.hid hv
  have cw := fun W (h : Below w.heap.size w W) => refwalk_any vn vh vt st i W (HV.out.call h) h1 h2 h3
  obtain ⟨l, hd, tl⟩ := st
  obtain ⟨⟨pn, cn, rfl, -⟩, ⟨ph, ch, rfl, -⟩, ⟨pt, ct, rfl, -⟩⟩ := hv
  go_enter Try.func32, Try.ntmps32
  go_wp2_with fail
  refine (cw _ (by (repeat (first | (with_reducible exact Below.refl _ _) | ((with_reducible refine below_alloc ?_ ?_ _); · (first | omega | (simp; done) | (simp; omega))) | ((with_reducible refine below_setCell ?_ ?_ _); · (first | omega | (simp; done) | (simp; omega))) | (with_reducible refine Below.drew ?_) | (with_reducible refine below_drewN ?_ _) | ((with_reducible refine below_call (by assumption) ?_ ?_); · (first | omega | (simp; done) | (simp; omega))))))).mono ?_; rintro e w1 ⟨v, rfl, hown, hb1⟩
  obtain ⟨ao, cp, rfl⟩ := rowI_shape hown
  go_wp2_with fail
  go_ret
  exact ⟨rfl, by (repeat (first | (with_reducible exact Below.refl _ _) | ((with_reducible refine below_alloc ?_ ?_ _); · (first | omega | (simp; done) | (simp; omega))) | ((with_reducible refine below_setCell ?_ ?_ _); · (first | omega | (simp; done) | (simp; omega))) | (with_reducible refine Below.drew ?_) | (with_reducible refine below_drewN ?_ _) | ((with_reducible refine below_call (by assumption) ?_ ?_); · (first | omega | (simp; done) | (simp; omega)))))⟩
/-- the first place; -1 of an empty list -/
def frontL (st : LSt) (i : Int) : Int := (walkL st i).headD (-1)
set_option maxRecDepth 100000 in
set_option maxHeartbeats 1000000 in
theorem reffront_any (vn vh vt : Value) (st : LSt) (i : Int) (w : World) (hv : IsLS w vn vh vt st) (h1 : st.1.length ≤ 1048576) (h2 : st.2.1.length ≤ 1048576) (h3 : st.2.2.length ≤ 1048576) :
    Calls Try.prog 30 #[.agg #[vn, vh, vt], .int .i64 i] w fun e w' => e = .returned (.int .i64 (frontL st i)) ∧ Below w.heap.size w w' := by
  have HV := Lib.hid hv
  have cw := fun W (h : Below w.heap.size w W) => refwalk_any vn vh vt st i W (HV.out.call h) h1 h2 h3
  have hfr : frontL st i = (walkL st i).headD (-1) := rfl
  obtain ⟨l, hd, tl⟩ := st
  obtain ⟨⟨pn, cn, rfl, -⟩, ⟨ph, ch, rfl, -⟩, ⟨pt, ct, rfl, -⟩⟩ := hv
  generalize walkL (l, hd, tl) i = L at *
  cases L with
  | nil =>
    have HF := Lib.hid hfr
    clear hfr
    go_enter Try.func30, Try.ntmps30
    go_wp2_with fail
    refine (cw _ (by (repeat (first | (with_reducible exact Below.refl _ _) | ((with_reducible refine below_alloc ?_ ?_ _); · (first | omega | (simp; done) | (simp; omega))) | ((with_reducible refine below_setCell ?_ ?_ _); · (first | omega | (simp; done) | (simp; omega))) | (with_reducible refine Below.drew ?_) | (with_reducible refine below_drewN ?_ _) | ((with_reducible refine below_call (by assumption) ?_ ?_); · (first | omega | (simp; done) | (simp; omega))))))).mono ?_; rintro e w1 ⟨v, rfl, hown, hb1⟩
    obtain ⟨ao, cp, rfl⟩ := rowI_shape hown
    go_wp2_with fail
    go_ret
    exact ⟨ret_int HF.out.symm, by (repeat (first | (with_reducible exact Below.refl _ _) | ((with_reducible refine below_alloc ?_ ?_ _); · (first | omega | (simp; done) | (simp; omega))) | ((with_reducible refine below_setCell ?_ ?_ _); · (first | omega | (simp; done) | (simp; omega))) | (with_reducible refine Below.drew ?_) | (with_reducible refine below_drewN ?_ _) | ((with_reducible refine below_call (by assumption) ?_ ?_); · (first | omega | (simp; done) | (simp; omega)))))⟩
  | cons x r =>
    have HF := Lib.hid hfr
    have hn : (((x :: r).length : Int) == 0) = false := by rw [beq_eq_false_iff_ne, List.length_cons]; omega
    have hn2 : (0 : Int) < ((x :: r).length : Nat) := by rw [List.length_cons]; omega
    clear hfr
    go_enter Try.func30, Try.ntmps30
    go_wp2_with fail
    refine (cw _ (by (repeat (first | (with_reducible exact Below.refl _ _) | ((with_reducible refine below_alloc ?_ ?_ _); · (first | omega | (simp; done) | (simp; omega))) | ((with_reducible refine below_setCell ?_ ?_ _); · (first | omega | (simp; done) | (simp; omega))) | (with_reducible refine Below.drew ?_) | (with_reducible refine below_drewN ?_ _) | ((with_reducible refine below_call (by assumption) ?_ ?_); · (first | omega | (simp; done) | (simp; omega))))))).mono ?_; rintro e w1 ⟨v, rfl, hown, hb1⟩
    obtain ⟨pa, ca, rfl, ra⟩ := hown.reads
    obtain ⟨ba, oa, rfl, da⟩ := ra 0 (by simp)
    simp only [List.getElem_cons_zero, Nat.add_zero] at da
    clear ra
    generalize (x :: r).length = n at *
    go_wp2_with fail
    go_ret
    exact ⟨ret_int HF.out.symm, by (repeat (first | (with_reducible exact Below.refl _ _) | ((with_reducible refine below_alloc ?_ ?_ _); · (first | omega | (simp; done) | (simp; omega))) | ((with_reducible refine below_setCell ?_ ?_ _); · (first | omega | (simp; done) | (simp; omega))) | (with_reducible refine Below.drew ?_) | (with_reducible refine below_drewN ?_ _) | ((with_reducible refine below_call (by assumption) ?_ ?_); · (first | omega | (simp; done) | (simp; omega)))))⟩
set_option maxRecDepth 100000 in
set_option maxHeartbeats 2000000 in
theorem refback_any (vn vh vt : Value) (st : LSt) (i : Int) (w : World) (hv : IsLS w vn vh vt st) (h1 : st.1.length ≤ 1048576) (h2 : st.2.1.length ≤ 1048576) (h3 : st.2.2.length ≤ 1048576) :
    Calls Try.prog 28 #[.agg #[vn, vh, vt], .int .i64 i] w fun e w' => ∃ v, e = .returned v ∧ OwnI w' w.heap.size v (walkL st i).reverse ∧ Below w.heap.size w w' := by
  obtain ⟨i0, hi0, hj0, hj1, hj2⟩ := info_parts info_int
  have HV := Lib.hid hv
  have cw := fun W (h : Below w.heap.size w W) => refwalk_any vn vh vt st i W (HV.out.call h) h1 h2 h3
  have hlen := walkL_len st i
  obtain ⟨l, hd, tl⟩ := st
  replace h1 : l.length ≤ 1048576 := h1
  replace hlen : (walkL (l, hd, tl) i).length ≤ l.length + 1 := hlen
  obtain ⟨⟨pn, cn, rfl, -⟩, ⟨ph, ch, rfl, -⟩, ⟨pt, ct, rfl, -⟩⟩ := hv
  generalize walkL (l, hd, tl) i = L at *
  have hL : (L.length : Int) ≤ 1048577 := by omega
  go_enter Try.func28, Try.ntmps28
  go_wp2_with fail
  refine (cw _ (by (repeat (first | (with_reducible exact Below.refl _ _) | ((with_reducible refine below_alloc ?_ ?_ _); · (first | omega | (simp; done) | (simp; omega))) | ((with_reducible refine below_setCell ?_ ?_ _); · (first | omega | (simp; done) | (simp; omega))) | (with_reducible refine Below.drew ?_) | (with_reducible refine below_drewN ?_ _) | ((with_reducible refine below_call (by assumption) ?_ ?_); · (first | omega | (simp; done) | (simp; omega))))))).mono ?_; rintro e w1 ⟨v, rfl, hown, hb1⟩
  obtain ⟨pa, ca, rfl, ra⟩ := hown.reads
  have RA := Lib.hid ra
  have hB : Below w.heap.size w w1 := by (repeat (first | (with_reducible exact Below.refl _ _) | ((with_reducible refine below_alloc ?_ ?_ _); · (first | omega | (simp; done) | (simp; omega))) | ((with_reducible refine below_setCell ?_ ?_ _); · (first | omega | (simp; done) | (simp; omega))) | (with_reducible refine Below.drew ?_) | (with_reducible refine below_drewN ?_ _) | ((with_reducible refine below_call (by assumption) ?_ ?_); · (first | omega | (simp; done) | (simp; omega)))))
  have hs1 := hB.size
  have hw : IntKind.i64.wrap ((L.length : Int) - 1) = (L.length : Int) - 1 := IntWalk.i64_in _ (by omega)
  clear ra hown cw hb1
  go_wp2_with fail
  go_loopw [6, 7] (fun u j wr => ∃ k : Nat, j = .int .i64 ((k : Int) - 1) ∧ k ≤ L.length ∧ OwnI wr w1.heap.size u (L.drop k).reverse ∧ Fr w1 wr) (fun _ j _ => (intOf j + 1).toNat)
  case atStart => exact ⟨L.length, rfl, Nat.le_refl _, by rw [List.drop_length]; exact OwnI.nil _ _, Fr.refl _⟩
  case round =>
    obtain ⟨k, rfl, hk, ho, hF⟩ := hrel
    have hs := Below.size hF
    have HF := Lib.hid hF
    obtain ⟨ao, cp, hve⟩ := rowI_shape ho
    subst hve
    have HO := Lib.hid ho
    clear ho hF
    cases k with
    | zero =>
      rw [List.drop_zero] at HO
      go_wp2
      go_ret
      exact ⟨_, rfl, HO.out.mono (by omega), Fr.fin hB HF.out⟩
    | succ k =>
      have hkl : k < L.length := by omega
      obtain ⟨ba, oa, rfl, da⟩ := RA.out k hkl
      have c0 := Fr.at HF.out da
      obtain ⟨x, hx⟩ : ∃ x, L[k] = x := ⟨_, rfl⟩
      have hdr : Hid ((L.drop k).reverse = (L.drop (k + 1)).reverse ++ [x]) := Lib.hid (by rw [List.drop_eq_getElem_cons hkl, List.reverse_cons, hx])
      rw [hx] at c0
      have hkk : (((k + 1 : Nat) : Int) - 1) = (k : Int) := by omega
      have hk0 : (0 : Int) ≤ k := by omega
      have hk1 : (k : Int) < L.length := by omega
      have hwk : IntKind.i64.wrap ((k : Int) - 1) = (k : Int) - 1 := IntWalk.i64_in _ (by omega)
      obtain ⟨R, hR⟩ : ∃ R, (L.drop (k + 1)).reverse = R := ⟨_, rfl⟩
      have hRl : R.length ≤ L.length := by rw [← hR, List.length_reverse, List.length_drop]; omega
      rw [hR] at HO hdr ⊢
      rw [hkk]
      clear da hx hkk hR
      go_wp2_with (at_builtin; (conv => skip); refine stopHere ?_)
      refine And.intro ?_ trivial
      refine wpList_append_own _ rfl _ _ 23 rfl w1.heap.size 3 i0 (.int .i64 0) 1 8 Try.underlying23 hi0 hj0 hj1 hj2 rfl (by decide) _ R.length (R.map (Value.int .i64)) rfl (HO.out.alloc _) ⟨wr.heap.size, 0, none⟩ 1 1 [Value.int .i64 x] rfl rfl (cell_one_new _ _ _) (by simp [Value.oneCell']) (by unfold maxLen; omega) (by omega) (by simp; omega) ?_
      intro v' w3 hown' hgr _
      have hb3 : Below w1.heap.size wr w3 := ((Below.refl _ _).alloc (by omega) _).grown hgr (by simp; omega) (fun q hq => (HO.out.lt q hq).1)
      have hF3 : Fr w1 w3 := Below.trans HF.out hb3
      have hown3 : OwnI w3 w1.heap.size v' (L.drop k).reverse := by
        rw [hdr.out]
        show World.ownsRow _ _ _ _ _ _ _
        rw [List.length_append, List.map_append]; exact hown'
      have H3 := Lib.hid (And.intro hF3 hown3)
      clear hown' hgr hown3 hF3 hb3
      go_wp2_with fail
      go_roundw
      case rel => exact ⟨k, rfl, by omega, H3.out.2, H3.out.1⟩
      case measure => first | (simp [intOf]; done) | (simp [intOf]; omega)
end Go.Proofs.Ytkcenadenmkgnaa
