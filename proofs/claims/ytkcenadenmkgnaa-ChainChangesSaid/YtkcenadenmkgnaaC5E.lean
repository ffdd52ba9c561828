/- Contracts of layer 4, the program's: mayBeAsked, Front, Walk, Len, Back. -/
import Derived.Test.YtkcenadenmkgnaaC5D
import Derived.Test.YtkcenadenmkgnaaShelf
import Derived.Lib.EndianMore
namespace Go.Proofs.Ytkcenadenmkgnaa
open Go.RowKit
set_option linter.unusedVariables false
set_option linter.unusedSimpArgs false

def askB (st : LSt) (i : Int) : Bool := decide (chkL st = 0) && isB st i
theorem askB_parts {st : LSt} {i : Int} (h : askB st i = true) : chkL st = 0 ∧ isB st i = true ∧ 0 ≤ i ∧ i.toNat < st.2.1.length := by
  unfold askB at h
  rw [Bool.and_eq_true, decide_eq_true_iff] at h
  have h2 := h.2
  unfold isB at h2
  rw [inB_iff] at h2
  exact ⟨h.1, h.2, h2.1, by omega⟩
theorem walkL_yes {st : LSt} {i : Int} (h : askB st i = true) : walkL st i = walkN st i.toNat := by
  obtain ⟨h1, h2, -, -⟩ := askB_parts h
  unfold walkL; rw [if_pos ⟨h1, h2⟩]
theorem walkL_no {st : LSt} {i : Int} (h : askB st i = false) : walkL st i = [] := by
  unfold walkL
  rw [if_neg]
  rintro ⟨h1, h2⟩
  unfold askB at h
  rw [decide_eq_true h1, h2] at h
  cases h
theorem thr_chk {st : LSt} (h : chkL st = 0) {i : Nat} (hi : i < st.2.1.length) : thrL st i = walkN st i := by
  obtain ⟨hn, hk, ht, hR, hF, hA⟩ := chkL_parts h
  have hr := hA i hi
  unfold rightB at hr
  split at hr
  · rename_i hl
    rw [Bool.and_eq_true] at hr
    have hc := cntN_le st.1 i
    have hp : thrP st i = true := by unfold thrP; rw [hr.1, decide_eq_true (by omega)]; rfl
    unfold thrL; rw [if_pos hp]
  · cases hr
theorem front_yes {st : LSt} {i : Nat} (h : askB st i = true) (hi : i < st.2.1.length) : frontL st i = st.2.1[i] := by
  obtain ⟨h1, h2, -, -⟩ := askB_parts h
  obtain ⟨hn, hk, ht, hR, hF, hA⟩ := chkL_parts h1
  have hh := links_head hR hi
  unfold frontL
  rw [walkL_yes h, Int.toNat_natCast]
  unfold walkN
  have e : st.2.1.getD i (-1) = st.2.1[i] := by simp [List.getD, hi]
  rw [e]
  unfold walkF
  by_cases h0 : st.2.1[i] < 0
  · rw [if_pos h0]; show (-1 : Int) = _; omega
  · rw [if_neg h0]; rfl
theorem front_no {st : LSt} {i : Int} (h : askB st i = false) : frontL st i = -1 := by unfold frontL; rw [walkL_no h]; rfl

set_option maxRecDepth 100000 in
set_option maxHeartbeats 1000000 in
theorem ask_any (vn vh vt : Value) (st : LSt) (i : Int) (w : World) (hv : IsLS w vn vh vt st) (h1 : st.1.length ≤ 1048576) (h2 : st.2.1.length ≤ 1048576) (h3 : st.2.2.length ≤ 1048576) :
    Calls Try.prog 54 #[.agg #[vn, vh, vt], .int .i64 i] w fun e w' => e = .returned (.bool (askB st i)) ∧ Below w.heap.size w w' := by
  have HV := Lib.hid hv
  have ck := fun W (h : Below w.heap.size w W) => chk_any vn vh vt st W (HV.out.call h) h1 h2 h3
  obtain ⟨l, hd, tl⟩ := st
  obtain ⟨⟨pn, cn, rfl, -⟩, ⟨ph, ch, rfl, -⟩, ⟨pt, ct, rfl, -⟩⟩ := hv
  have c := fun W => hasI_any ph hd.length ch i W
  by_cases hc : chkL (l, hd, tl) = 0
  · rw [hc] at ck
    have hf : Hid (askB (l, hd, tl) i = inB i 0 ((hd.length : Int) - 1)) := Lib.hid (by unfold askB; rw [decide_eq_true hc]; rfl)
    clear hc
    go_enter Try.func54, Try.ntmps54
    go_wp2_with fail
    refine (ck _ (by (repeat (first | (with_reducible exact Below.refl _ _) | ((with_reducible refine below_alloc ?_ ?_ _); · (first | omega | (simp; done) | (simp; omega))) | ((with_reducible refine below_setCell ?_ ?_ _); · (first | omega | (simp; done) | (simp; omega))) | (with_reducible refine Below.drew ?_) | (with_reducible refine below_drewN ?_ _) | ((with_reducible refine below_call (by assumption) ?_ ?_); · (first | omega | (simp; done) | (simp; omega))))))).mono ?_; rintro e w1 ⟨rfl, hb1⟩
    obtain ⟨hk1, hf1, hz1⟩ := bcellN (n := w.heap.size + 1) (by (try simp only [World.size_drew, World.size_alloc, World.size_setCell]); omega) hb1; have hz1_0 : w.heap.size < w1.heap.size := (by omega)
    go_wp2_with fail
    refine (c _).mono ?_; rintro e w2 ⟨rfl, hb2⟩
    obtain ⟨hk2, hf2, hz2⟩ := bcellN (n := w.heap.size + 1) (by (try simp only [World.size_drew, World.size_alloc, World.size_setCell]); omega) hb2; have hz2_0 : w.heap.size < w2.heap.size := (by omega)
    go_wp2_with fail
    go_ret
    exact ⟨ret_bool hf.out.symm, by (repeat (first | (with_reducible exact Below.refl _ _) | ((with_reducible refine below_alloc ?_ ?_ _); · (first | omega | (simp; done) | (simp; omega))) | ((with_reducible refine below_setCell ?_ ?_ _); · (first | omega | (simp; done) | (simp; omega))) | (with_reducible refine Below.drew ?_) | (with_reducible refine below_drewN ?_ _) | ((with_reducible refine below_call (by assumption) ?_ ?_); · (first | omega | (simp; done) | (simp; omega)))))⟩
  · have hc1 : (chkL (l, hd, tl) == 0) = false := by simpa using hc
    have hf : Hid (askB (l, hd, tl) i = false) := Lib.hid (by unfold askB; rw [decide_eq_false hc]; rfl)
    clear hc
    go_enter Try.func54, Try.ntmps54
    go_wp2_with fail
    refine (ck _ (by (repeat (first | (with_reducible exact Below.refl _ _) | ((with_reducible refine below_alloc ?_ ?_ _); · (first | omega | (simp; done) | (simp; omega))) | ((with_reducible refine below_setCell ?_ ?_ _); · (first | omega | (simp; done) | (simp; omega))) | (with_reducible refine Below.drew ?_) | (with_reducible refine below_drewN ?_ _) | ((with_reducible refine below_call (by assumption) ?_ ?_); · (first | omega | (simp; done) | (simp; omega))))))).mono ?_; rintro e w1 ⟨rfl, hb1⟩
    obtain ⟨hk1, hf1, hz1⟩ := bcellN (n := w.heap.size + 1) (by (try simp only [World.size_drew, World.size_alloc, World.size_setCell]); omega) hb1; have hz1_0 : w.heap.size < w1.heap.size := (by omega)
    go_wp2_with fail
    go_ret
    exact ⟨ret_bool hf.out.symm, by (repeat (first | (with_reducible exact Below.refl _ _) | ((with_reducible refine below_alloc ?_ ?_ _); · (first | omega | (simp; done) | (simp; omega))) | ((with_reducible refine below_setCell ?_ ?_ _); · (first | omega | (simp; done) | (simp; omega))) | (with_reducible refine Below.drew ?_) | (with_reducible refine below_drewN ?_ _) | ((with_reducible refine below_call (by assumption) ?_ ?_); · (first | omega | (simp; done) | (simp; omega)))))⟩

set_option maxRecDepth 100000 in
set_option maxHeartbeats 1000000 in
theorem front_any (vn vh vt : Value) (st : LSt) (i : Int) (w : World) (hv : IsLS w vn vh vt st) (h1 : st.1.length ≤ 1048576) (h2 : st.2.1.length ≤ 1048576) (h3 : st.2.2.length ≤ 1048576) :
    Calls Try.prog 29 #[.agg #[vn, vh, vt], .int .i64 i] w fun e w' => e = .returned (.int .i64 (frontL st i)) ∧ Below w.heap.size w w' := by
  have HV := Lib.hid hv
  have ck := fun W (h : Below w.heap.size w W) => ask_any vn vh vt st i W (HV.out.call h) h1 h2 h3
  have hap := fun h => askB_parts (st := st) (i := i) h
  have hfy := fun k h hi => front_yes (st := st) (i := k) h hi
  have hfn := fun h => front_no (st := st) (i := i) h
  obtain ⟨l, hd, tl⟩ := st
  obtain ⟨⟨pn, cn, rfl, -⟩, ⟨ph, ch, rfl, hh⟩, ⟨pt, ct, rfl, -⟩⟩ := hv
  cases hc : askB (l, hd, tl) i
  · rw [hc] at ck
    have hf := Lib.hid (hfn hc)
    clear hc hap hfy hfn hh
    go_enter Try.func29, Try.ntmps29
    go_wp2_with fail
    refine (ck _ (by (repeat (first | (with_reducible exact Below.refl _ _) | ((with_reducible refine below_alloc ?_ ?_ _); · (first | omega | (simp; done) | (simp; omega))) | ((with_reducible refine below_setCell ?_ ?_ _); · (first | omega | (simp; done) | (simp; omega))) | (with_reducible refine Below.drew ?_) | (with_reducible refine below_drewN ?_ _) | ((with_reducible refine below_call (by assumption) ?_ ?_); · (first | omega | (simp; done) | (simp; omega))))))).mono ?_; rintro e w1 ⟨rfl, hb1⟩
    obtain ⟨hk1, hf1, hz1⟩ := bcellN (n := w.heap.size + 1) (by (try simp only [World.size_drew, World.size_alloc, World.size_setCell]); omega) hb1; have hz1_0 : w.heap.size < w1.heap.size := (by omega)
    go_wp2_with fail
    go_ret
    exact ⟨ret_int hf.out.symm, by (repeat (first | (with_reducible exact Below.refl _ _) | ((with_reducible refine below_alloc ?_ ?_ _); · (first | omega | (simp; done) | (simp; omega))) | ((with_reducible refine below_setCell ?_ ?_ _); · (first | omega | (simp; done) | (simp; omega))) | (with_reducible refine Below.drew ?_) | (with_reducible refine below_drewN ?_ _) | ((with_reducible refine below_call (by assumption) ?_ ?_); · (first | omega | (simp; done) | (simp; omega)))))⟩
  · rw [hc] at ck
    obtain ⟨-, -, hi0, hil⟩ := hap hc
    obtain ⟨k, rfl⟩ : ∃ k : Nat, i = k := ⟨i.toNat, by omega⟩
    replace hil : k < hd.length := by rw [Int.toNat_natCast] at hil; exact hil
    have hil' : (k : Int) < hd.length := by omega
    have hf := hfy k hc hil
    obtain ⟨b, off, rfl, d0⟩ := hh k hil
    obtain ⟨x, hx⟩ : ∃ x, hd[k] = x := ⟨_, rfl⟩
    replace hf : frontL (l, hd, tl) k = hd[k] := hf
    rw [hx] at d0 hf
    have hf := Lib.hid hf
    have HD := Lib.hid d0
    clear hc hap hfy hfn hh hx d0
    go_enter Try.func29, Try.ntmps29
    go_wp2_with fail
    refine (ck _ (by (repeat (first | (with_reducible exact Below.refl _ _) | ((with_reducible refine below_alloc ?_ ?_ _); · (first | omega | (simp; done) | (simp; omega))) | ((with_reducible refine below_setCell ?_ ?_ _); · (first | omega | (simp; done) | (simp; omega))) | (with_reducible refine Below.drew ?_) | (with_reducible refine below_drewN ?_ _) | ((with_reducible refine below_call (by assumption) ?_ ?_); · (first | omega | (simp; done) | (simp; omega))))))).mono ?_; rintro e w1 ⟨rfl, hb1⟩
    obtain ⟨hk1, hf1, hz1⟩ := bcellN (n := w.heap.size + 1) (by (try simp only [World.size_drew, World.size_alloc, World.size_setCell]); omega) hb1; have hz1_0 : w.heap.size < w1.heap.size := (by omega)
    have hB1 : Below w.heap.size w w1 := by (repeat (first | (with_reducible exact Below.refl _ _) | ((with_reducible refine below_alloc ?_ ?_ _); · (first | omega | (simp; done) | (simp; omega))) | ((with_reducible refine below_setCell ?_ ?_ _); · (first | omega | (simp; done) | (simp; omega))) | (with_reducible refine Below.drew ?_) | (with_reducible refine below_drewN ?_ _) | ((with_reducible refine below_call (by assumption) ?_ ?_); · (first | omega | (simp; done) | (simp; omega)))))
    have c0 := (hB1.cell (p := ⟨b, off + k, none⟩) (World.block_lt_of_cell? _ _ HD.out)).trans HD.out
    go_wp2_with fail
    go_ret
    exact ⟨ret_int hf.out.symm, by (repeat (first | (with_reducible exact Below.refl _ _) | ((with_reducible refine below_alloc ?_ ?_ _); · (first | omega | (simp; done) | (simp; omega))) | ((with_reducible refine below_setCell ?_ ?_ _); · (first | omega | (simp; done) | (simp; omega))) | (with_reducible refine Below.drew ?_) | (with_reducible refine below_drewN ?_ _) | ((with_reducible refine below_call (by assumption) ?_ ?_); · (first | omega | (simp; done) | (simp; omega)))))⟩

set_option maxRecDepth 100000 in
set_option maxHeartbeats 1000000 in
theorem walk4_any (vn vh vt : Value) (st : LSt) (i : Int) (w : World) (hv : IsLS w vn vh vt st) (h1 : st.1.length ≤ 1048576) (h2 : st.2.1.length ≤ 1048576) (h3 : st.2.2.length ≤ 1048576) :
    Calls Try.prog 25 #[.agg #[vn, vh, vt], .int .i64 i] w fun e w' => ∃ v, e = .returned v ∧ OwnI w' w.heap.size v (walkL st i) ∧ Below w.heap.size w w' := by
  have HV := Lib.hid hv
  have ck := fun W (h : Below w.heap.size w W) => ask_any vn vh vt st i W (HV.out.call h) h1 h2 h3
  have ct := fun k W (h : Below w.heap.size w W) hR hi hit => through_any vn vh vt st k W (HV.out.call h) h1 h2 hR hi hit
  have hap := fun h => askB_parts (st := st) (i := i) h
  have hwy := fun h => walkL_yes (st := st) (i := i) h
  have hwn := fun h => walkL_no (st := st) (i := i) h
  have htc := fun k h hi => thr_chk (st := st) h (i := k) hi
  have hcp := fun h => chkL_parts (st := st) h
  obtain ⟨l, hd, tl⟩ := st
  obtain ⟨⟨pn, cn, rfl, -⟩, ⟨ph, ch, rfl, -⟩, ⟨pt, ct', rfl, -⟩⟩ := hv
  cases hc : askB (l, hd, tl) i
  · rw [hc] at ck
    have hf := Lib.hid (hwn hc)
    clear hc hap hwy hwn htc hcp ct
    go_enter Try.func25, Try.ntmps25
    go_wp2_with fail
    refine (ck _ (by (repeat (first | (with_reducible exact Below.refl _ _) | ((with_reducible refine below_alloc ?_ ?_ _); · (first | omega | (simp; done) | (simp; omega))) | ((with_reducible refine below_setCell ?_ ?_ _); · (first | omega | (simp; done) | (simp; omega))) | (with_reducible refine Below.drew ?_) | (with_reducible refine below_drewN ?_ _) | ((with_reducible refine below_call (by assumption) ?_ ?_); · (first | omega | (simp; done) | (simp; omega))))))).mono ?_; rintro e w1 ⟨rfl, hb1⟩
    obtain ⟨hk1, hf1, hz1⟩ := bcellN (n := w.heap.size + 1) (by (try simp only [World.size_drew, World.size_alloc, World.size_setCell]); omega) hb1; have hz1_0 : w.heap.size < w1.heap.size := (by omega)
    go_wp2_with fail
    go_ret
    exact ⟨_, rfl, by rw [hf.out]; exact OwnI.nil _ _, by (repeat (first | (with_reducible exact Below.refl _ _) | ((with_reducible refine below_alloc ?_ ?_ _); · (first | omega | (simp; done) | (simp; omega))) | ((with_reducible refine below_setCell ?_ ?_ _); · (first | omega | (simp; done) | (simp; omega))) | (with_reducible refine Below.drew ?_) | (with_reducible refine below_drewN ?_ _) | ((with_reducible refine below_call (by assumption) ?_ ?_); · (first | omega | (simp; done) | (simp; omega)))))⟩
  · rw [hc] at ck
    obtain ⟨hch, -, hi0, hil⟩ := hap hc
    obtain ⟨k, rfl⟩ : ∃ k : Nat, i = k := ⟨i.toNat, by omega⟩
    rw [Int.toNat_natCast] at hil
    have hw := hwy hc
    rw [Int.toNat_natCast] at hw
    obtain ⟨-, -, htl, hR, -, -⟩ := hcp hch
    have hf : Hid (walkL (l, hd, tl) k = thrL (l, hd, tl) k) := Lib.hid (by rw [htc k hch hil, hw])
    replace ct := fun W h => ct k W h hR hil (by rw [htl]; exact hil)
    clear hc hap hwy hwn htc hcp hw hR hch htl
    go_enter Try.func25, Try.ntmps25
    go_wp2_with fail
    refine (ck _ (by (repeat (first | (with_reducible exact Below.refl _ _) | ((with_reducible refine below_alloc ?_ ?_ _); · (first | omega | (simp; done) | (simp; omega))) | ((with_reducible refine below_setCell ?_ ?_ _); · (first | omega | (simp; done) | (simp; omega))) | (with_reducible refine Below.drew ?_) | (with_reducible refine below_drewN ?_ _) | ((with_reducible refine below_call (by assumption) ?_ ?_); · (first | omega | (simp; done) | (simp; omega))))))).mono ?_; rintro e w1 ⟨rfl, hb1⟩
    obtain ⟨hk1, hf1, hz1⟩ := bcellN (n := w.heap.size + 1) (by (try simp only [World.size_drew, World.size_alloc, World.size_setCell]); omega) hb1; have hz1_0 : w.heap.size < w1.heap.size := (by omega)
    go_wp2_with fail
    refine (ct _ (by (repeat (first | (with_reducible exact Below.refl _ _) | ((with_reducible refine below_alloc ?_ ?_ _); · (first | omega | (simp; done) | (simp; omega))) | ((with_reducible refine below_setCell ?_ ?_ _); · (first | omega | (simp; done) | (simp; omega))) | (with_reducible refine Below.drew ?_) | (with_reducible refine below_drewN ?_ _) | ((with_reducible refine below_call (by assumption) ?_ ?_); · (first | omega | (simp; done) | (simp; omega))))))).mono ?_; rintro e w2 ⟨v, rfl, hown, hb2⟩
    obtain ⟨hk2, hf2, hz2⟩ := bcellN (n := w.heap.size + 1) (by (try simp only [World.size_drew, World.size_alloc, World.size_setCell]); omega) hb2; have hz2_0 : w.heap.size < w2.heap.size := (by omega)
    have hs1 := hb1.size
    simp only [World.size_alloc] at hs1
    obtain ⟨ao, cp, hve⟩ := rowI_shape hown
    subst hve
    have HO := Lib.hid hown
    clear hown
    go_wp2_with fail
    go_ret
    exact ⟨_, rfl, by rw [hf.out]; exact HO.out.mono (by omega), by (repeat (first | (with_reducible exact Below.refl _ _) | ((with_reducible refine below_alloc ?_ ?_ _); · (first | omega | (simp; done) | (simp; omega))) | ((with_reducible refine below_setCell ?_ ?_ _); · (first | omega | (simp; done) | (simp; omega))) | (with_reducible refine Below.drew ?_) | (with_reducible refine below_drewN ?_ _) | ((with_reducible refine below_call (by assumption) ?_ ?_); · (first | omega | (simp; done) | (simp; omega)))))⟩

set_option maxRecDepth 100000 in
set_option maxHeartbeats 1000000 in
theorem len_any (vn vh vt : Value) (st : LSt) (i : Int) (w : World) (hv : IsLS w vn vh vt st) (h1 : st.1.length ≤ 1048576) (h2 : st.2.1.length ≤ 1048576) (h3 : st.2.2.length ≤ 1048576) :
    Calls Try.prog 31 #[.agg #[vn, vh, vt], .int .i64 i] w fun e w' => e = .returned (.int .i64 (walkL st i).length) ∧ Below w.heap.size w w' := by
  have HV := Lib.hid hv
  have cw := fun W (h : Below w.heap.size w W) => walk4_any vn vh vt st i W (HV.out.call h) h1 h2 h3
  obtain ⟨l, hd, tl⟩ := st
  obtain ⟨⟨pn, cn, rfl, -⟩, ⟨ph, ch, rfl, -⟩, ⟨pt, ct', rfl, -⟩⟩ := hv
  go_enter Try.func31, Try.ntmps31
  go_wp2_with fail
  refine (cw _ (by (repeat (first | (with_reducible exact Below.refl _ _) | ((with_reducible refine below_alloc ?_ ?_ _); · (first | omega | (simp; done) | (simp; omega))) | ((with_reducible refine below_setCell ?_ ?_ _); · (first | omega | (simp; done) | (simp; omega))) | (with_reducible refine Below.drew ?_) | (with_reducible refine below_drewN ?_ _) | ((with_reducible refine below_call (by assumption) ?_ ?_); · (first | omega | (simp; done) | (simp; omega))))))).mono ?_; rintro e w1 ⟨v, rfl, hown, hb1⟩
  obtain ⟨hk1, hf1, hz1⟩ := bcellN (n := w.heap.size + 1) (by (try simp only [World.size_drew, World.size_alloc, World.size_setCell]); omega) hb1; have hz1_0 : w.heap.size < w1.heap.size := (by omega)
  obtain ⟨ao, cp, hve⟩ := rowI_shape hown
  subst hve
  clear hown
  go_wp2_with fail
  go_ret
  exact ⟨rfl, by (repeat (first | (with_reducible exact Below.refl _ _) | ((with_reducible refine below_alloc ?_ ?_ _); · (first | omega | (simp; done) | (simp; omega))) | ((with_reducible refine below_setCell ?_ ?_ _); · (first | omega | (simp; done) | (simp; omega))) | (with_reducible refine Below.drew ?_) | (with_reducible refine below_drewN ?_ _) | ((with_reducible refine below_call (by assumption) ?_ ?_); · (first | omega | (simp; done) | (simp; omega)))))⟩

theorem own_setCells {base : Nat} {e : TypeId} {size g n cap : Nat} : ∀ (vs : List Value) (o : Nat) (w : World) (xs : List Value), w.ownsRow base e size (.slice (some ⟨g, 0, none⟩) n cap) n xs →
    (w.setCells g o vs).ownsRow base e size (.slice (some ⟨g, 0, none⟩) n cap) n ((List.range xs.length).map fun j => if o ≤ j ∧ j < o + vs.length then vs.getD (j - o) undef else xs.getD j undef) := by
  intro vs
  induction vs with
  | nil =>
    intro o w xs h
    have e : ((List.range xs.length).map fun j => if o ≤ j ∧ j < o + ([] : List Value).length then ([] : List Value).getD (j - o) undef else xs.getD j undef) = xs := by
      refine List.ext_getElem (by simp) fun j h1 h2 => ?_
      simp only [List.getElem_map, List.getElem_range, List.length_nil]
      rw [if_neg (by omega)]
      simp [List.getD, h2]
    rw [e]; exact h
  | cons v vs ih =>
    intro o w xs h
    have h2 := ih (o + 1) (w.setCell ⟨g, o, none⟩ v) (xs.set o v) (h.stored o v).1
    have e : ((List.range xs.length).map fun j => if o ≤ j ∧ j < o + (v :: vs).length then (v :: vs).getD (j - o) undef else xs.getD j undef) = ((List.range (xs.set o v).length).map fun j => if o + 1 ≤ j ∧ j < o + 1 + vs.length then vs.getD (j - (o + 1)) undef else (xs.set o v).getD j undef) := by
      rw [List.length_set]
      refine List.map_congr_left fun j hj => ?_
      rw [List.mem_range] at hj
      by_cases e1 : j = o
      · subst e1
        rw [if_pos (by simp), if_neg (by omega)]
        simp [List.getD, hj]
      · by_cases e2 : o + 1 ≤ j ∧ j < o + 1 + vs.length
        · rw [if_pos e2, if_pos (by simp; omega)]
          have : j - o = (j - (o + 1)) + 1 := by omega
          rw [this]; rfl
        · rw [if_neg e2, if_neg (by simp; omega)]
          simp [List.getD, List.getElem?_set, e1, Ne.symm e1]
    rw [e]; exact h2
set_option maxRecDepth 100000 in
set_option maxHeartbeats 1000000 in
/-- an own row of numbers is turned -/
theorem reverse_any (v : Value) (L : List Int) (B : Nat) (w : World) (h : OwnI w B v L) (hl : L.length ≤ 1048576) :
    Calls Try.prog 56 #[v] w fun e w' => e = .returned (.tuple #[]) ∧ OwnI w' B v L.reverse ∧ Below B w w' := by
  have h' : w.ownsRow B 3 1 v L.length (L.map (Value.int .i64)) := h
  rcases h.2 with ⟨hv, hn⟩ | ⟨g, cap, cur, hv, hB, hg, r⟩
  · obtain rfl := List.eq_nil_of_length_eq_zero hn
    subst hv
    refine (Try.slices_Reverse_int_empty none 0 w).mono ?_
    rintro e w' ⟨rfl, rfl⟩
    exact ⟨rfl, OwnI.nil _ _, Below.refl _ _⟩
  · subst hv
    have hc : ∀ j, j < L.length → w.cell? ⟨g, 0 + j, none⟩ = some (.int .i64 (L.getD j 0)) := by
      intro j hj
      rw [Nat.zero_add, h'.cellAt j (by omega)]
      simp [List.getD, hj]
    refine (Try.slices_Reverse_int_cells g 0 L.length cap L w (Nat.le_refl _) (by omega) hc (fun j hj => Lib.frozen_of_heap hg _)).mono ?_
    rintro e w' ⟨rfl, q, rfl⟩
    rw [List.take_length]
    refine ⟨rfl, ?_, ?_⟩
    · have h3 : (w.drewN q).ownsRow B 3 1 (.slice (some ⟨g, 0, none⟩) L.length cap) L.length (L.map (Value.int .i64)) := h'
      have h2 := own_setCells (L.reverse.map (Value.int .i64)) 0 _ _ h3
      have e : ((List.range (L.map (Value.int .i64)).length).map fun j => if 0 ≤ j ∧ j < 0 + (L.reverse.map (Value.int .i64)).length then (L.reverse.map (Value.int .i64)).getD (j - 0) undef else (L.map (Value.int .i64)).getD j undef) = L.reverse.map (Value.int .i64) := by
        refine List.ext_getElem (by simp) fun j h1 h2 => ?_
        simp only [List.getElem_map, List.getElem_range, Nat.sub_zero]
        rw [if_pos ⟨Nat.zero_le _, by simpa using h2⟩]
        simp only [List.length_map, List.length_reverse] at h2
        simp [List.getD, h2]
      rw [e] at h2
      show World.ownsRow _ _ _ _ _ _ _
      rw [List.length_reverse]
      exact h2
    · exact (below_drewN (Below.refl _ _) q).trans (Lib.below_setCells_w hB _ _ _)
set_option maxRecDepth 100000 in
set_option maxHeartbeats 1000000 in
theorem back_any (vn vh vt : Value) (st : LSt) (i : Int) (w : World) (hv : IsLS w vn vh vt st) (h1 : st.1.length ≤ 1048500) (h2 : st.2.1.length ≤ 1048576) (h3 : st.2.2.length ≤ 1048576) :
    Calls Try.prog 27 #[.agg #[vn, vh, vt], .int .i64 i] w fun e w' => ∃ v, e = .returned v ∧ OwnI w' w.heap.size v (walkL st i).reverse ∧ Below w.heap.size w w' := by
  have HV := Lib.hid hv
  have cw := fun W (h : Below w.heap.size w W) => walk4_any vn vh vt st i W (HV.out.call h) (by omega) h2 h3
  have hll := walkL_len st i
  obtain ⟨l, hd, tl⟩ := st
  replace h1 : l.length ≤ 1048500 := h1
  replace hll : (walkL (l, hd, tl) i).length ≤ l.length + 1 := hll
  obtain ⟨⟨pn, cn, rfl, -⟩, ⟨ph, ch, rfl, -⟩, ⟨pt, ct', rfl, -⟩⟩ := hv
  obtain ⟨L, hL⟩ : ∃ L, walkL (l, hd, tl) i = L := ⟨_, rfl⟩
  rw [hL] at cw hll ⊢
  go_enter Try.func27, Try.ntmps27
  go_wp2_with fail
  refine (cw _ (by (repeat (first | (with_reducible exact Below.refl _ _) | ((with_reducible refine below_alloc ?_ ?_ _); · (first | omega | (simp; done) | (simp; omega))) | ((with_reducible refine below_setCell ?_ ?_ _); · (first | omega | (simp; done) | (simp; omega))) | (with_reducible refine Below.drew ?_) | (with_reducible refine below_drewN ?_ _) | ((with_reducible refine below_call (by assumption) ?_ ?_); · (first | omega | (simp; done) | (simp; omega))))))).mono ?_; rintro e w1 ⟨v, rfl, hown, hb1⟩
  obtain ⟨hk1, hf1, hz1⟩ := bcellN (n := w.heap.size + 1) (by (try simp only [World.size_drew, World.size_alloc, World.size_setCell]); omega) hb1; have hz1_0 : w.heap.size < w1.heap.size := (by omega)
  obtain ⟨ao, cp, hve⟩ := rowI_shape hown
  subst hve
  have cr := reverse_any (.slice ao L.length cp) L (w.heap.size + 1) w1 (hown.mono (by simp)) (by omega)
  clear hown
  go_wp2_with fail
  refine cr.mono ?_; rintro e w2 ⟨rfl, hown2, hb2⟩
  have HO := Lib.hid hown2
  have hbw : Below w.heap.size w w2 := Below.trans (show Below w.heap.size w w1 by (repeat (first | (with_reducible exact Below.refl _ _) | ((with_reducible refine below_alloc ?_ ?_ _); · (first | omega | (simp; done) | (simp; omega))) | ((with_reducible refine below_setCell ?_ ?_ _); · (first | omega | (simp; done) | (simp; omega))) | (with_reducible refine Below.drew ?_) | (with_reducible refine below_drewN ?_ _) | ((with_reducible refine below_call (by assumption) ?_ ?_); · (first | omega | (simp; done) | (simp; omega)))))) (hb2.mono (by omega))
  clear hown2
  go_wp2_with fail
  go_ret
  exact ⟨_, rfl, HO.out.mono (by omega), hbw⟩
end Go.Proofs.Ytkcenadenmkgnaa
