/- Contracts of layer 4, the program's: isInOrder, Check. -/
import Derived.Test.YtkcenadenmkgnaaC5C
namespace Go.Proofs.Ytkcenadenmkgnaa
open Go.RowKit
set_option linter.unusedVariables false
set_option linter.unusedSimpArgs false

theorem thrL_len (st : LSt) (i : Nat) : (thrL st i).length ≤ st.1.length := by
  unfold thrL
  split
  · rename_i h
    unfold thrP at h
    rw [Bool.and_eq_true, decide_eq_true_iff] at h
    exact h.2
  · exact Nat.zero_le _
theorem right_thr (st : LSt) (i : Nat) : rightB st i = (thrOk st i && decide ((thrL st i).length = cntN st.1 i)) := by
  have hc := cntN_le st.1 i
  unfold rightB thrOk thrL
  by_cases h : (walkN st i).length = cntN st.1 i
  · rw [if_pos h]
    have hp : thrP st i = prevOk st.1 i (-1) (walkN st i) := by unfold thrP; rw [decide_eq_true (by omega), Bool.and_true]
    rw [hp]
    cases hq : prevOk st.1 i (-1) (walkN st i)
    · rfl
    · simp [h]
  · rw [if_neg h]
    cases hp : thrP st i
    · rfl
    · simp [h]

set_option maxRecDepth 100000 in
set_option maxHeartbeats 4000000 in
theorem inorder_any (vn vh vt : Value) (st : LSt) (i : Nat) (w : World) (hv : IsLS w vn vh vt st) (h1 : st.1.length ≤ 1048576) (h2 : st.2.1.length ≤ 1048576) (hR : linksB st = true) (hi : i < st.2.1.length) (hit : i < st.2.2.length) :
    Calls Try.prog 51 #[.agg #[vn, vh, vt], .int .i64 i] w fun e w' => e = .returned (.bool (rightB st i)) ∧ Below w.heap.size w w' := by
  have HV := Lib.hid hv
  have cw := fun W (h : Below w.heap.size w W) => through_any vn vh vt st i W (HV.out.call h) h1 h2 hR hi hit
  have hRT := right_thr st i
  have hTL := thrL_len st i
  have hcl := cntN_le st.1 i
  obtain ⟨l, hd, tl⟩ := st
  replace h1 : l.length ≤ 1048576 := h1
  obtain ⟨⟨pn, cn, rfl, hn⟩, ⟨ph, ch, rfl, -⟩, ⟨pt, ct, rfl, -⟩⟩ := hv
  have HN := Lib.hid hn
  have h1' : (l.length : Int) ≤ 1048576 := by omega
  obtain ⟨L, hL⟩ : ∃ L, thrL (l, hd, tl) i = L := ⟨_, rfl⟩
  rw [hL] at hRT hTL cw
  replace hTL : L.length ≤ l.length := hTL
  have hLen' : (L.length : Int) ≤ l.length := by omega
  clear hn hL
  cases hok : thrOk (l, hd, tl) i
  · rw [hok] at cw hRT
    have hf : Hid (rightB (l, hd, tl) i = false) := Lib.hid hRT
    clear hok hRT
    go_enter Try.func51, Try.ntmps51
    go_wp2_with fail
    refine (cw _ (by (repeat (first | (with_reducible exact Below.refl _ _) | ((with_reducible refine below_alloc ?_ ?_ _); · (first | omega | (simp; done) | (simp; omega))) | ((with_reducible refine below_setCell ?_ ?_ _); · (first | omega | (simp; done) | (simp; omega))) | (with_reducible refine Below.drew ?_) | (with_reducible refine below_drewN ?_ _) | ((with_reducible refine below_call (by assumption) ?_ ?_); · (first | omega | (simp; done) | (simp; omega))))))).mono ?_; rintro e w1 ⟨v, rfl, hown, hb1⟩
    obtain ⟨hk1, hf1, hz1⟩ := bcellN (n := w.heap.size + 1) (by (try simp only [World.size_drew, World.size_alloc, World.size_setCell]); omega) hb1; have hz1_0 : w.heap.size < w1.heap.size := (by omega)
    obtain ⟨ao, cp, hve⟩ := rowI_shape hown
    subst hve
    clear hown
    go_wp2_with fail
    go_ret
    exact ⟨ret_bool hf.out.symm, by (repeat (first | (with_reducible exact Below.refl _ _) | ((with_reducible refine below_alloc ?_ ?_ _); · (first | omega | (simp; done) | (simp; omega))) | ((with_reducible refine below_setCell ?_ ?_ _); · (first | omega | (simp; done) | (simp; omega))) | (with_reducible refine Below.drew ?_) | (with_reducible refine below_drewN ?_ _) | ((with_reducible refine below_call (by assumption) ?_ ?_); · (first | omega | (simp; done) | (simp; omega)))))⟩
  · rw [hok] at cw hRT
    rw [Bool.true_and] at hRT
    have HRT := Lib.hid hRT
    clear hok hRT
    go_enter Try.func51, Try.ntmps51
    go_wp2_with fail
    refine (cw _ (by (repeat (first | (with_reducible exact Below.refl _ _) | ((with_reducible refine below_alloc ?_ ?_ _); · (first | omega | (simp; done) | (simp; omega))) | ((with_reducible refine below_setCell ?_ ?_ _); · (first | omega | (simp; done) | (simp; omega))) | (with_reducible refine Below.drew ?_) | (with_reducible refine below_drewN ?_ _) | ((with_reducible refine below_call (by assumption) ?_ ?_); · (first | omega | (simp; done) | (simp; omega))))))).mono ?_; rintro e w1 ⟨v, rfl, hown, hb1⟩
    obtain ⟨hk1, hf1, hz1⟩ := bcellN (n := w.heap.size + 1) (by (try simp only [World.size_drew, World.size_alloc, World.size_setCell]); omega) hb1; have hz1_0 : w.heap.size < w1.heap.size := (by omega)
    obtain ⟨ao, cp, hve⟩ := rowI_shape hown
    subst hve
    clear hown cw
    go_wp2_with fail
    refine gen_world (F := fun wt => wt.cell? ⟨w.heap.size, 0, none⟩ = some (.slice pn l.length cn) ∧ Below w.heap.size w wt ∧ w.heap.size < wt.heap.size) ⟨by simp [go_sem, hk1], by (repeat (first | (with_reducible exact Below.refl _ _) | ((with_reducible refine below_alloc ?_ ?_ _); · (first | omega | (simp; done) | (simp; omega))) | ((with_reducible refine below_setCell ?_ ?_ _); · (first | omega | (simp; done) | (simp; omega))) | (with_reducible refine Below.drew ?_) | (with_reducible refine below_drewN ?_ _) | ((with_reducible refine below_call (by assumption) ?_ ?_); · (first | omega | (simp; done) | (simp; omega))))), by omega⟩ (fun wt hF => ?_)
    obtain ⟨e0, hB, hz⟩ := hF
    have HE := Lib.hid e0
    clear hk1 hf1 hz1 hz1_0 hb1 e0
    go_loopw [7, 23] (fun c j wr => ∃ (k m : Nat), j = .int .i64 k ∧ c = .int .i64 ((L.length : Int) - m) ∧ k ≤ l.length ∧ m = cntN (l.take k) i ∧ m ≤ k ∧ Fr wt wr) (fun _ j _ => l.length - (intOf j).toNat)
    case atStart => exact ⟨0, 0, rfl, by simp, by omega, rfl, by omega, Fr.refl _⟩
    case round =>
      obtain ⟨k, m, rfl, rfl, hk, hm, hmk, hF⟩ := hrel
      have HM2 := Lib.hid hm
      have e0 := Fr.at hF HE.out
      have HF := Lib.hid hF
      clear hm hF
      by_cases hlt : k < l.length
      · have hlt' : (k : Int) < l.length := by omega
        obtain ⟨b, off, rfl, d0, d1, d2⟩ := HN.out k hlt
        have c0 := Fr.at (Fr.fin hB HF.out) d0
        have c1 := Fr.at (Fr.fin hB HF.out) d1
        have c2 := Fr.at (Fr.fin hB HF.out) d2
        have hstep := cntN_take l i k hlt
        obtain ⟨g, hg⟩ : ∃ g, l[k].1 = g := ⟨_, rfl⟩
        obtain ⟨g1, hg1⟩ : ∃ g, l[k].2.1 = g := ⟨_, rfl⟩
        obtain ⟨g2, hg2⟩ : ∃ g, l[k].2.2 = g := ⟨_, rfl⟩
        rw [hg] at c0 hstep
        rw [hg1] at c1
        rw [hg2] at c2
        have hm1 : (m : Int) ≤ 1048576 := by omega
        clear d0 d1 d2 hg1 hg2 hg
        cases hgi : (g == (i : Int))
        · rw [hgi] at hstep
          have HS := Lib.hid hstep
          clear hstep
          go_wp2
          go_roundw
          case rel => exact ⟨k + 1, m, by go_num, rfl, by omega, by rw [HS.out, ← HM2.out]; rfl, by omega, by have hF := HF.out; refine Fr.call hF ?_; (repeat (first | (with_reducible exact Below.refl _ _) | ((with_reducible refine below_alloc ?_ ?_ _); · (first | omega | (simp; done) | (simp; omega))) | ((with_reducible refine below_setCell ?_ ?_ _); · (first | omega | (simp; done) | (simp; omega))) | (with_reducible refine Below.drew ?_) | (with_reducible refine below_drewN ?_ _) | ((with_reducible refine below_call (by assumption) ?_ ?_); · (first | omega | (simp; done) | (simp; omega)))))⟩
          case measure => simp [intOf]; omega
        · rw [hgi] at hstep
          have HS := Lib.hid hstep
          clear hstep
          go_wp2
          go_roundw
          case rel => exact ⟨k + 1, m + 1, by go_num, by (first | (simp only [Value.int.injEq, true_and]; rw [IntWalk.wrap64_in _ ⟨by omega, by omega⟩]; omega) | go_num | (congr 1; omega)), by omega, by rw [HS.out, ← HM2.out]; rfl, by omega, by have hF := HF.out; refine Fr.call hF ?_; (repeat (first | (with_reducible exact Below.refl _ _) | ((with_reducible refine below_alloc ?_ ?_ _); · (first | omega | (simp; done) | (simp; omega))) | ((with_reducible refine below_setCell ?_ ?_ _); · (first | omega | (simp; done) | (simp; omega))) | (with_reducible refine Below.drew ?_) | (with_reducible refine below_drewN ?_ _) | ((with_reducible refine below_call (by assumption) ?_ ?_); · (first | omega | (simp; done) | (simp; omega)))))⟩
          case measure => simp [intOf]; omega
      · obtain rfl : k = l.length := by omega
        rw [List.take_length] at HM2
        have hf : Hid (rightB (l, hd, tl) i = ((L.length : Int) - m == 0)) := Lib.hid (by
          rw [HRT.out, Bool.eq_iff_iff, beq_iff_eq, decide_eq_true_iff]
          show L.length = cntN l i ↔ _
          rw [← HM2.out]; omega)
        clear hlt
        go_wp2
        go_ret
        exact ⟨ret_bool (by rw [hf.out]), by have hF := Fr.fin hB HF.out; exact hF⟩
set_option maxRecDepth 100000 in
set_option maxHeartbeats 4000000 in
theorem chk_any (vn vh vt : Value) (st : LSt) (w : World) (hv : IsLS w vn vh vt st) (h1 : st.1.length ≤ 1048576) (h2 : st.2.1.length ≤ 1048576) (h3 : st.2.2.length ≤ 1048576) :
    Calls Try.prog 22 #[.agg #[vn, vh, vt]] w fun e w' => e = .returned (.int .i64 (chkL st)) ∧ Below w.heap.size w w' := by
  have HV := Lib.hid hv
  have cs := fun W (h : Below w.heap.size w W) => sized_any vn vh vt st W (HV.out.call h) h1 h2 h3
  have ck := fun W (h : Below w.heap.size w W) ht => inrange_any vn vh vt st W (HV.out.call h) h1 h2 ht
  have cf := fun W (h : Below w.heap.size w W) => containsstray_any vn st.1 W (HV.out.1.call h) h1
  have cr := fun i W (h : Below w.heap.size w W) hR hi hit => inorder_any vn vh vt st i W (HV.out.call h) h1 h2 hR hi hit
  have hsf := fun h => stray_form (st := st) h
  have hlp : lensB st = true → st.2.2.length = st.2.1.length := by
    intro h
    unfold lensB at h
    rw [Bool.and_eq_true, decide_eq_true_iff] at h
    exact h.2
  obtain ⟨l, hd, tl⟩ := st
  replace h1 : l.length ≤ 1048576 := h1
  replace h2 : hd.length ≤ 1048576 := h2
  replace h3 : tl.length ≤ 1048576 := h3
  replace hlp : lensB (l, hd, tl) = true → tl.length = hd.length := hlp
  replace hsf : linksB (l, hd, tl) = true → l.any strayB = l.any formBad := hsf
  have h2' : (hd.length : Int) ≤ 1048576 := by omega
  obtain ⟨⟨pn, cn, rfl, -⟩, ⟨ph, ch, rfl, -⟩, ⟨pt, ct, rfl, -⟩⟩ := hv
  have hCK : chkL (l, hd, tl) = if lensB (l, hd, tl) = false then 5 else if linksB (l, hd, tl) = false then 8 else if l.any formBad then 4 else if (List.range hd.length).all (rightB (l, hd, tl)) then 0 else 10 := rfl
  cases b1 : lensB (l, hd, tl)
  · rw [b1] at cs hCK
    have hf : Hid (chkL (l, hd, tl) = 5) := Lib.hid (by rw [hCK]; rfl)
    clear hCK b1 hlp hsf
    go_enter Try.func22, Try.ntmps22
    go_wp2_with fail
    refine (cs _ (by (repeat (first | (with_reducible exact Below.refl _ _) | ((with_reducible refine below_alloc ?_ ?_ _); · (first | omega | (simp; done) | (simp; omega))) | ((with_reducible refine below_setCell ?_ ?_ _); · (first | omega | (simp; done) | (simp; omega))) | (with_reducible refine Below.drew ?_) | (with_reducible refine below_drewN ?_ _) | ((with_reducible refine below_call (by assumption) ?_ ?_); · (first | omega | (simp; done) | (simp; omega))))))).mono ?_; rintro e w1 ⟨rfl, hb1⟩
    obtain ⟨hk1, hf1, hz1⟩ := bcellN (n := w.heap.size + 1) (by (try simp only [World.size_drew, World.size_alloc, World.size_setCell]); omega) hb1; have hz1_0 : w.heap.size < w1.heap.size := (by omega)
    go_wp2_with fail
    go_ret
    exact ⟨ret_int hf.out.symm, by (repeat (first | (with_reducible exact Below.refl _ _) | ((with_reducible refine below_alloc ?_ ?_ _); · (first | omega | (simp; done) | (simp; omega))) | ((with_reducible refine below_setCell ?_ ?_ _); · (first | omega | (simp; done) | (simp; omega))) | (with_reducible refine Below.drew ?_) | (with_reducible refine below_drewN ?_ _) | ((with_reducible refine below_call (by assumption) ?_ ?_); · (first | omega | (simp; done) | (simp; omega)))))⟩
  · have ht := hlp b1
    rw [b1] at cs hCK
    have HT := Lib.hid ht
    replace ck := fun W h => ck W h ht
    clear hlp ht
    cases b2 : linksB (l, hd, tl)
    · rw [b2] at ck hCK
      have hf : Hid (chkL (l, hd, tl) = 8) := Lib.hid (by rw [hCK]; rfl)
      clear hCK b1 b2 hsf
      go_enter Try.func22, Try.ntmps22
      go_wp2_with fail
      refine (cs _ (by (repeat (first | (with_reducible exact Below.refl _ _) | ((with_reducible refine below_alloc ?_ ?_ _); · (first | omega | (simp; done) | (simp; omega))) | ((with_reducible refine below_setCell ?_ ?_ _); · (first | omega | (simp; done) | (simp; omega))) | (with_reducible refine Below.drew ?_) | (with_reducible refine below_drewN ?_ _) | ((with_reducible refine below_call (by assumption) ?_ ?_); · (first | omega | (simp; done) | (simp; omega))))))).mono ?_; rintro e w1 ⟨rfl, hb1⟩
      obtain ⟨hk1, hf1, hz1⟩ := bcellN (n := w.heap.size + 1) (by (try simp only [World.size_drew, World.size_alloc, World.size_setCell]); omega) hb1; have hz1_0 : w.heap.size < w1.heap.size := (by omega)
      go_wp2_with fail
      refine (ck _ (by (repeat (first | (with_reducible exact Below.refl _ _) | ((with_reducible refine below_alloc ?_ ?_ _); · (first | omega | (simp; done) | (simp; omega))) | ((with_reducible refine below_setCell ?_ ?_ _); · (first | omega | (simp; done) | (simp; omega))) | (with_reducible refine Below.drew ?_) | (with_reducible refine below_drewN ?_ _) | ((with_reducible refine below_call (by assumption) ?_ ?_); · (first | omega | (simp; done) | (simp; omega))))))).mono ?_; rintro e w2 ⟨rfl, hb2⟩
      obtain ⟨hk2, hf2, hz2⟩ := bcellN (n := w.heap.size + 1) (by (try simp only [World.size_drew, World.size_alloc, World.size_setCell]); omega) hb2; have hz2_0 : w.heap.size < w2.heap.size := (by omega)
      go_wp2_with fail
      go_ret
      exact ⟨ret_int hf.out.symm, by (repeat (first | (with_reducible exact Below.refl _ _) | ((with_reducible refine below_alloc ?_ ?_ _); · (first | omega | (simp; done) | (simp; omega))) | ((with_reducible refine below_setCell ?_ ?_ _); · (first | omega | (simp; done) | (simp; omega))) | (with_reducible refine Below.drew ?_) | (with_reducible refine below_drewN ?_ _) | ((with_reducible refine below_call (by assumption) ?_ ?_); · (first | omega | (simp; done) | (simp; omega)))))⟩
    · have hs := hsf b2
      have HR := Lib.hid b2
      rw [b2] at ck hCK
      replace cf : ∀ W (h : Below w.heap.size w W), Calls Try.prog 49 #[.slice pn l.length cn, .func (.func 50) #[] #[]] W fun e w' => e = .returned (.bool (l.any strayB)) ∧ Below W.heap.size W w' := cf
      rw [hs] at cf
      clear hsf hs
      cases b3 : l.any formBad
      · rw [b3] at cf hCK
        have hC3 : Hid (chkL (l, hd, tl) = if (List.range hd.length).all (rightB (l, hd, tl)) then 0 else 10) := Lib.hid (by rw [hCK]; rfl)
        clear hCK b1 b2 b3
        go_enter Try.func22, Try.ntmps22
        go_wp2_with fail
        refine (cs _ (by (repeat (first | (with_reducible exact Below.refl _ _) | ((with_reducible refine below_alloc ?_ ?_ _); · (first | omega | (simp; done) | (simp; omega))) | ((with_reducible refine below_setCell ?_ ?_ _); · (first | omega | (simp; done) | (simp; omega))) | (with_reducible refine Below.drew ?_) | (with_reducible refine below_drewN ?_ _) | ((with_reducible refine below_call (by assumption) ?_ ?_); · (first | omega | (simp; done) | (simp; omega))))))).mono ?_; rintro e w1 ⟨rfl, hb1⟩
        obtain ⟨hk1, hf1, hz1⟩ := bcellN (n := w.heap.size + 1) (by (try simp only [World.size_drew, World.size_alloc, World.size_setCell]); omega) hb1; have hz1_0 : w.heap.size < w1.heap.size := (by omega)
        go_wp2_with fail
        refine (ck _ (by (repeat (first | (with_reducible exact Below.refl _ _) | ((with_reducible refine below_alloc ?_ ?_ _); · (first | omega | (simp; done) | (simp; omega))) | ((with_reducible refine below_setCell ?_ ?_ _); · (first | omega | (simp; done) | (simp; omega))) | (with_reducible refine Below.drew ?_) | (with_reducible refine below_drewN ?_ _) | ((with_reducible refine below_call (by assumption) ?_ ?_); · (first | omega | (simp; done) | (simp; omega))))))).mono ?_; rintro e w2 ⟨rfl, hb2⟩
        obtain ⟨hk2, hf2, hz2⟩ := bcellN (n := w.heap.size + 1) (by (try simp only [World.size_drew, World.size_alloc, World.size_setCell]); omega) hb2; have hz2_0 : w.heap.size < w2.heap.size := (by omega)
        go_wp2_with fail
        refine (cf _ (by (repeat (first | (with_reducible exact Below.refl _ _) | ((with_reducible refine below_alloc ?_ ?_ _); · (first | omega | (simp; done) | (simp; omega))) | ((with_reducible refine below_setCell ?_ ?_ _); · (first | omega | (simp; done) | (simp; omega))) | (with_reducible refine Below.drew ?_) | (with_reducible refine below_drewN ?_ _) | ((with_reducible refine below_call (by assumption) ?_ ?_); · (first | omega | (simp; done) | (simp; omega))))))).mono ?_; rintro e w3 ⟨rfl, hb3⟩
        obtain ⟨hk3, hf3, hz3⟩ := bcellN (n := w.heap.size + 1) (by (try simp only [World.size_drew, World.size_alloc, World.size_setCell]); omega) hb3; have hz3_0 : w.heap.size < w3.heap.size := (by omega)
        go_wp2_with fail
        refine gen_world (F := fun wt => (wt.cell? ⟨w.heap.size, 0, none⟩ = some (.slice pn l.length cn) ∧ wt.cell? ⟨w.heap.size, 1, none⟩ = some (.slice ph hd.length ch) ∧ wt.cell? ⟨w.heap.size, 2, none⟩ = some (.slice pt tl.length ct)) ∧ Below w.heap.size w wt ∧ w.heap.size < wt.heap.size) ⟨⟨by simp [go_sem, hk1, hk2, hk3], by simp [go_sem, hk1, hk2, hk3], by simp [go_sem, hk1, hk2, hk3]⟩, by (repeat (first | (with_reducible exact Below.refl _ _) | ((with_reducible refine below_alloc ?_ ?_ _); · (first | omega | (simp; done) | (simp; omega))) | ((with_reducible refine below_setCell ?_ ?_ _); · (first | omega | (simp; done) | (simp; omega))) | (with_reducible refine Below.drew ?_) | (with_reducible refine below_drewN ?_ _) | ((with_reducible refine below_call (by assumption) ?_ ?_); · (first | omega | (simp; done) | (simp; omega))))), by omega⟩ (fun wt hF => ?_)
        obtain ⟨⟨e0, e1, e2⟩, hB, hz⟩ := hF
        have HE := Lib.hid (And.intro e0 (And.intro e1 e2))
        clear e0 e1 e2 hk1 hf1 hz1 hz1_0 hb1 hk2 hf2 hz2 hz2_0 hb2 hk3 hf3 hz3 hz3_0 hb3 cs ck cf
        go_loopw [16] (fun i wr => ∃ k : Nat, i = .int .i64 k ∧ k ≤ hd.length ∧ (∀ j, j < hd.length → j < k → rightB (l, hd, tl) j = true) ∧ Fr wt wr) (fun i _ => hd.length - (intOf i).toNat)
        case atStart => exact ⟨0, rfl, by omega, fun j hj h => by omega, Fr.refl _⟩
        case round =>
          obtain ⟨k, rfl, hk, hok, hF⟩ := hrel
          have HK := Lib.hid hok
          have e0 := Fr.at hF HE.out.1
          have e1 := Fr.at hF HE.out.2.1
          have e2 := Fr.at hF HE.out.2.2
          have hzr : w.heap.size < wr.heap.size := World.block_lt_of_cell? _ _ e0
          have HF2 := Lib.hid hF
          clear hok hF
          by_cases hlt : k < hd.length
          · have hlt' : (k : Int) < hd.length := by omega
            have cc := cr k wr (Fr.fin hB HF2.out) HR.out hlt (by rw [HT.out]; exact hlt)
            cases q : rightB (l, hd, tl) k
            · rw [q] at cc
              have hf : Hid (chkL (l, hd, tl) = 10) := Lib.hid (by rw [hC3.out, if_neg]; intro h; rw [List.all_eq_true] at h; have := h k (List.mem_range.2 hlt); rw [q] at this; cases this)
              clear q
              go_wp2_with fail
              refine cc.mono ?_; rintro e w2 ⟨rfl, hb2⟩
              go_wp2_with fail
              go_ret
              exact ⟨ret_int hf.out.symm, by have hF := Fr.call HF2.out hb2; exact Fr.fin hB hF⟩
            · rw [q] at cc
              have hf := Lib.hid q
              clear q
              go_wp2_with fail
              refine cc.mono ?_; rintro e w2 ⟨rfl, hb2⟩
              go_wp2_with fail
              go_roundw
              case rel =>
                refine ⟨k + 1, by go_num, by omega, fun j hj hjk => ?_, Fr.call HF2.out hb2⟩
                by_cases e : j = k
                · subst e; exact hf.out
                · exact HK.out j hj (by omega)
              case measure => simp [intOf]; omega
          · obtain rfl : k = hd.length := by omega
            have hf : Hid (chkL (l, hd, tl) = 0) := Lib.hid (by rw [hC3.out, if_pos]; rw [List.all_eq_true]; intro j hj; exact HK.out j (List.mem_range.1 hj) (List.mem_range.1 hj))
            clear hlt
            go_wp2_with fail
            go_ret
            exact ⟨ret_int hf.out.symm, Fr.fin hB HF2.out⟩
      · rw [b3] at cf hCK
        have hf : Hid (chkL (l, hd, tl) = 4) := Lib.hid (by rw [hCK]; rfl)
        clear hCK b1 b2 b3
        go_enter Try.func22, Try.ntmps22
        go_wp2_with fail
        refine (cs _ (by (repeat (first | (with_reducible exact Below.refl _ _) | ((with_reducible refine below_alloc ?_ ?_ _); · (first | omega | (simp; done) | (simp; omega))) | ((with_reducible refine below_setCell ?_ ?_ _); · (first | omega | (simp; done) | (simp; omega))) | (with_reducible refine Below.drew ?_) | (with_reducible refine below_drewN ?_ _) | ((with_reducible refine below_call (by assumption) ?_ ?_); · (first | omega | (simp; done) | (simp; omega))))))).mono ?_; rintro e w1 ⟨rfl, hb1⟩
        obtain ⟨hk1, hf1, hz1⟩ := bcellN (n := w.heap.size + 1) (by (try simp only [World.size_drew, World.size_alloc, World.size_setCell]); omega) hb1; have hz1_0 : w.heap.size < w1.heap.size := (by omega)
        go_wp2_with fail
        refine (ck _ (by (repeat (first | (with_reducible exact Below.refl _ _) | ((with_reducible refine below_alloc ?_ ?_ _); · (first | omega | (simp; done) | (simp; omega))) | ((with_reducible refine below_setCell ?_ ?_ _); · (first | omega | (simp; done) | (simp; omega))) | (with_reducible refine Below.drew ?_) | (with_reducible refine below_drewN ?_ _) | ((with_reducible refine below_call (by assumption) ?_ ?_); · (first | omega | (simp; done) | (simp; omega))))))).mono ?_; rintro e w2 ⟨rfl, hb2⟩
        obtain ⟨hk2, hf2, hz2⟩ := bcellN (n := w.heap.size + 1) (by (try simp only [World.size_drew, World.size_alloc, World.size_setCell]); omega) hb2; have hz2_0 : w.heap.size < w2.heap.size := (by omega)
        go_wp2_with fail
        refine (cf _ (by (repeat (first | (with_reducible exact Below.refl _ _) | ((with_reducible refine below_alloc ?_ ?_ _); · (first | omega | (simp; done) | (simp; omega))) | ((with_reducible refine below_setCell ?_ ?_ _); · (first | omega | (simp; done) | (simp; omega))) | (with_reducible refine Below.drew ?_) | (with_reducible refine below_drewN ?_ _) | ((with_reducible refine below_call (by assumption) ?_ ?_); · (first | omega | (simp; done) | (simp; omega))))))).mono ?_; rintro e w3 ⟨rfl, hb3⟩
        obtain ⟨hk3, hf3, hz3⟩ := bcellN (n := w.heap.size + 1) (by (try simp only [World.size_drew, World.size_alloc, World.size_setCell]); omega) hb3; have hz3_0 : w.heap.size < w3.heap.size := (by omega)
        go_wp2_with fail
        go_ret
        exact ⟨ret_int hf.out.symm, by (repeat (first | (with_reducible exact Below.refl _ _) | ((with_reducible refine below_alloc ?_ ?_ _); · (first | omega | (simp; done) | (simp; omega))) | ((with_reducible refine below_setCell ?_ ?_ _); · (first | omega | (simp; done) | (simp; omega))) | (with_reducible refine Below.drew ?_) | (with_reducible refine below_drewN ?_ _) | ((with_reducible refine below_call (by assumption) ?_ ?_); · (first | omega | (simp; done) | (simp; omega)))))⟩
end Go.Proofs.Ytkcenadenmkgnaa
