/- Contracts of layer 4, the document's: Check. -/
import Derived.Test.YtkcenadenmkgnaaC4D
namespace Go.Proofs.Ytkcenadenmkgnaa
open Go.RowKit
set_option linter.unusedVariables false
set_option linter.unusedSimpArgs false

/-- one in no list that has a link -/
def formBad (x : Nod) : Bool := decide (x.1 < 0) && (decide (0 ≤ x.2.1) || decide (0 ≤ x.2.2))
def lensB (st : LSt) : Bool := (inB st.1.length 1 64 && inB st.2.1.length 1 8) && decide (st.2.2.length = st.2.1.length)
def chkL (st : LSt) : Int :=
  if lensB st = false then 5 else if linksB st = false then 8 else if st.1.any formBad then 4 else if (List.range st.2.1.length).all (rightB st) then 0 else 10
theorem anyN_no {l : List Nod} {f : Nod → Bool} (h : ∀ j (hj : j < l.length), f l[j] = false) : l.any f = false := by
  rw [List.any_eq_false]; intro c hc
  obtain ⟨j, hj, rfl⟩ := List.mem_iff_getElem.1 hc
  simp [h j hj]
theorem anyN_yes {l : List Nod} {f : Nod → Bool} {j : Nat} (hj : j < l.length) (h : f l[j] = true) : l.any f = true := by
  rw [List.any_eq_true]; exact ⟨l[j], List.getElem_mem _, h⟩

set_option maxRecDepth 100000 in
set_option maxHeartbeats 4000000 in
theorem refchk_any (vn vh vt : Value) (st : LSt) (w : World) (hv : IsLS w vn vh vt st) (h1 : st.1.length ≤ 1048576) (h2 : st.2.1.length ≤ 1048576) (h3 : st.2.2.length ≤ 1048576) :
    Calls Try.prog 23 #[.agg #[vn, vh, vt]] w fun e w' => e = .returned (.int .i64 (chkL st)) ∧ Below w.heap.size w w' := by
  have HV := Lib.hid hv
  have ck := fun W (h : Below w.heap.size w W) => links_any vn vh vt st W (HV.out.call h) h1 h2 h3
  have cr := fun i W (h : Below w.heap.size w W) hR hi hit => right_any vn vh vt st i W (HV.out.call h) h1 h2 hR hi hit
  obtain ⟨l, hd, tl⟩ := st
  replace h1 : l.length ≤ 1048576 := h1
  replace h2 : hd.length ≤ 1048576 := h2
  replace h3 : tl.length ≤ 1048576 := h3
  have h1' : (l.length : Int) ≤ 1048576 := by omega
  have h2' : (hd.length : Int) ≤ 1048576 := by omega
  have h3' : (tl.length : Int) ≤ 1048576 := by omega
  obtain ⟨⟨pn, cn, rfl, hn⟩, ⟨ph, ch, rfl, -⟩, ⟨pt, ct, rfl, -⟩⟩ := hv
  have HN := Lib.hid hn
  clear hn
  have i1 := fun W => in_any l.length 1 64 W
  have i2 := fun W => in_any hd.length 1 8 W
  have hLB : lensB (l, hd, tl) = ((inB l.length 1 64 && inB hd.length 1 8) && decide (tl.length = hd.length)) := rfl
  have hCK : chkL (l, hd, tl) = if lensB (l, hd, tl) = false then 5 else if linksB (l, hd, tl) = false then 8 else if l.any formBad then 4 else if (List.range hd.length).all (rightB (l, hd, tl)) then 0 else 10 := rfl
  cases b1 : inB (l.length : Int) 1 64
  · rw [b1] at i1 hLB
    have hf : Hid (chkL (l, hd, tl) = 5) := Lib.hid (by rw [hCK, hLB]; rfl)
    clear hLB hCK b1
    go_enter Try.func23, Try.ntmps23
    go_wp2_with fail
    refine (i1 _).mono ?_; rintro e w1 ⟨rfl, hb1⟩
    obtain ⟨hk1, hf1, hz1⟩ := bcellN (n := w.heap.size + 1) (by (try simp only [World.size_drew, World.size_alloc, World.size_setCell]); omega) hb1; have hz1_0 : w.heap.size < w1.heap.size := (by omega)
    go_wp2_with fail
    go_ret
    exact ⟨ret_int hf.out.symm, by (repeat (first | (with_reducible exact Below.refl _ _) | ((with_reducible refine below_alloc ?_ ?_ _); · (first | omega | (simp; done) | (simp; omega))) | ((with_reducible refine below_setCell ?_ ?_ _); · (first | omega | (simp; done) | (simp; omega))) | (with_reducible refine Below.drew ?_) | (with_reducible refine below_drewN ?_ _) | ((with_reducible refine below_call (by assumption) ?_ ?_); · (first | omega | (simp; done) | (simp; omega)))))⟩
  · rw [b1] at i1 hLB
    cases b2 : inB (hd.length : Int) 1 8
    · rw [b2] at i2 hLB
      have hf : Hid (chkL (l, hd, tl) = 5) := Lib.hid (by rw [hCK, hLB]; rfl)
      clear hLB hCK b1 b2
      go_enter Try.func23, Try.ntmps23
      go_wp2_with fail
      refine (i1 _).mono ?_; rintro e w1 ⟨rfl, hb1⟩
      obtain ⟨hk1, hf1, hz1⟩ := bcellN (n := w.heap.size + 1) (by (try simp only [World.size_drew, World.size_alloc, World.size_setCell]); omega) hb1; have hz1_0 : w.heap.size < w1.heap.size := (by omega)
      go_wp2_with fail
      refine (i2 _).mono ?_; rintro e w2 ⟨rfl, hb2⟩
      obtain ⟨hk2, hf2, hz2⟩ := bcellN (n := w.heap.size + 1) (by (try simp only [World.size_drew, World.size_alloc, World.size_setCell]); omega) hb2; have hz2_0 : w.heap.size < w2.heap.size := (by omega)
      go_wp2_with fail
      go_ret
      exact ⟨ret_int hf.out.symm, by (repeat (first | (with_reducible exact Below.refl _ _) | ((with_reducible refine below_alloc ?_ ?_ _); · (first | omega | (simp; done) | (simp; omega))) | ((with_reducible refine below_setCell ?_ ?_ _); · (first | omega | (simp; done) | (simp; omega))) | (with_reducible refine Below.drew ?_) | (with_reducible refine below_drewN ?_ _) | ((with_reducible refine below_call (by assumption) ?_ ?_); · (first | omega | (simp; done) | (simp; omega)))))⟩
    · rw [b2] at i2 hLB
      by_cases b3 : tl.length = hd.length
      · have b3' : ((tl.length : Int) != hd.length) = false := by simp [b3]
        have HB3 := Lib.hid b3
        rw [decide_eq_true b3] at hLB
        clear b3
        cases b4 : linksB (l, hd, tl)
        · rw [b4] at ck
          have hf : Hid (chkL (l, hd, tl) = 8) := Lib.hid (by rw [hCK, hLB, b4]; rfl)
          clear hLB hCK b1 b2 b4
          go_enter Try.func23, Try.ntmps23
          go_wp2_with fail
          refine (i1 _).mono ?_; rintro e w1 ⟨rfl, hb1⟩
          obtain ⟨hk1, hf1, hz1⟩ := bcellN (n := w.heap.size + 1) (by (try simp only [World.size_drew, World.size_alloc, World.size_setCell]); omega) hb1; have hz1_0 : w.heap.size < w1.heap.size := (by omega)
          go_wp2_with fail
          refine (i2 _).mono ?_; rintro e w2 ⟨rfl, hb2⟩
          obtain ⟨hk2, hf2, hz2⟩ := bcellN (n := w.heap.size + 1) (by (try simp only [World.size_drew, World.size_alloc, World.size_setCell]); omega) hb2; have hz2_0 : w.heap.size < w2.heap.size := (by omega)
          go_wp2_with fail
          refine (ck _ (by (repeat (first | (with_reducible exact Below.refl _ _) | ((with_reducible refine below_alloc ?_ ?_ _); · (first | omega | (simp; done) | (simp; omega))) | ((with_reducible refine below_setCell ?_ ?_ _); · (first | omega | (simp; done) | (simp; omega))) | (with_reducible refine Below.drew ?_) | (with_reducible refine below_drewN ?_ _) | ((with_reducible refine below_call (by assumption) ?_ ?_); · (first | omega | (simp; done) | (simp; omega))))))).mono ?_; rintro e w3 ⟨rfl, hb3⟩
          obtain ⟨hk3, hf3, hz3⟩ := bcellN (n := w.heap.size + 1) (by (try simp only [World.size_drew, World.size_alloc, World.size_setCell]); omega) hb3; have hz3_0 : w.heap.size < w3.heap.size := (by omega)
          go_wp2_with fail
          go_ret
          exact ⟨ret_int hf.out.symm, by (repeat (first | (with_reducible exact Below.refl _ _) | ((with_reducible refine below_alloc ?_ ?_ _); · (first | omega | (simp; done) | (simp; omega))) | ((with_reducible refine below_setCell ?_ ?_ _); · (first | omega | (simp; done) | (simp; omega))) | (with_reducible refine Below.drew ?_) | (with_reducible refine below_drewN ?_ _) | ((with_reducible refine below_call (by assumption) ?_ ?_); · (first | omega | (simp; done) | (simp; omega)))))⟩
        · rw [b4] at ck
          have HR := Lib.hid b4
          have hC2 : Hid (chkL (l, hd, tl) = if l.any formBad then 4 else if (List.range hd.length).all (rightB (l, hd, tl)) then 0 else 10) := Lib.hid (by rw [hCK, hLB, b4]; rfl)
          clear hLB hCK b1 b2 b4
          go_enter Try.func23, Try.ntmps23
          go_wp2_with fail
          refine (i1 _).mono ?_; rintro e w1 ⟨rfl, hb1⟩
          obtain ⟨hk1, hf1, hz1⟩ := bcellN (n := w.heap.size + 1) (by (try simp only [World.size_drew, World.size_alloc, World.size_setCell]); omega) hb1; have hz1_0 : w.heap.size < w1.heap.size := (by omega)
          go_wp2_with fail
          refine (i2 _).mono ?_; rintro e w2 ⟨rfl, hb2⟩
          obtain ⟨hk2, hf2, hz2⟩ := bcellN (n := w.heap.size + 1) (by (try simp only [World.size_drew, World.size_alloc, World.size_setCell]); omega) hb2; have hz2_0 : w.heap.size < w2.heap.size := (by omega)
          go_wp2_with fail
          refine (ck _ (by (repeat (first | (with_reducible exact Below.refl _ _) | ((with_reducible refine below_alloc ?_ ?_ _); · (first | omega | (simp; done) | (simp; omega))) | ((with_reducible refine below_setCell ?_ ?_ _); · (first | omega | (simp; done) | (simp; omega))) | (with_reducible refine Below.drew ?_) | (with_reducible refine below_drewN ?_ _) | ((with_reducible refine below_call (by assumption) ?_ ?_); · (first | omega | (simp; done) | (simp; omega))))))).mono ?_; rintro e w3 ⟨rfl, hb3⟩
          obtain ⟨hk3, hf3, hz3⟩ := bcellN (n := w.heap.size + 1) (by (try simp only [World.size_drew, World.size_alloc, World.size_setCell]); omega) hb3; have hz3_0 : w.heap.size < w3.heap.size := (by omega)
          go_wp2_with fail
          refine gen_world (F := fun wt => (wt.cell? ⟨w.heap.size, 0, none⟩ = some (.slice pn l.length cn) ∧ wt.cell? ⟨w.heap.size, 1, none⟩ = some (.slice ph hd.length ch) ∧ wt.cell? ⟨w.heap.size, 2, none⟩ = some (.slice pt tl.length ct)) ∧ Below w.heap.size w wt ∧ w.heap.size < wt.heap.size) ⟨⟨by simp [go_sem, hk1, hk2, hk3], by simp [go_sem, hk1, hk2, hk3], by simp [go_sem, hk1, hk2, hk3]⟩, by (repeat (first | (with_reducible exact Below.refl _ _) | ((with_reducible refine below_alloc ?_ ?_ _); · (first | omega | (simp; done) | (simp; omega))) | ((with_reducible refine below_setCell ?_ ?_ _); · (first | omega | (simp; done) | (simp; omega))) | (with_reducible refine Below.drew ?_) | (with_reducible refine below_drewN ?_ _) | ((with_reducible refine below_call (by assumption) ?_ ?_); · (first | omega | (simp; done) | (simp; omega))))), by omega⟩ (fun wt hF => ?_)
          obtain ⟨⟨e0, e1, e2⟩, hB, hz⟩ := hF
          have HE := Lib.hid (And.intro e0 (And.intro e1 e2))
          clear e0 e1 e2 hk1 hf1 hz1 hz1_0 hb1 hk2 hf2 hz2 hz2_0 hb2 hk3 hf3 hz3 hz3_0 hb3 i1 i2 ck
          go_loopw [3] (fun i wr => ∃ k : Nat, i = .int .i64 k ∧ k ≤ l.length ∧ (∀ j (hj : j < l.length), j < k → formBad l[j] = false) ∧ Fr wt wr) (fun i _ => l.length - (intOf i).toNat)
          case atStart => exact ⟨0, rfl, by omega, fun j hj h => by omega, Fr.refl _⟩
          case round =>
            obtain ⟨k, rfl, hk, hok, hF⟩ := hrel
            have HK := Lib.hid hok
            have e0 := Fr.at hF HE.out.1
            have e1 := Fr.at hF HE.out.2.1
            have e2 := Fr.at hF HE.out.2.2
            have hzr : w.heap.size < wr.heap.size := World.block_lt_of_cell? _ _ e0
            have hs := Below.size hF
            have HF := Lib.hid hF
            clear hok hF
            by_cases hlt : k < l.length
            · have hlt' : (k : Int) < l.length := by omega
              obtain ⟨b, off, rfl, d0, d1, d2⟩ := HN.out k hlt
              have c0 := Fr.at (Fr.fin hB HF.out) d0
              have c1 := Fr.at (Fr.fin hB HF.out) d1
              have c2 := Fr.at (Fr.fin hB HF.out) d2
              have hbw : b < wr.heap.size := World.block_lt_of_cell? _ _ c0
              obtain ⟨x, hx⟩ : ∃ x, l[k] = x := ⟨_, rfl⟩
              rw [hx] at c0 c1 c2
              have HX := Lib.hid hx
              clear d0 d1 d2 hx
              obtain ⟨x0, x1, x2⟩ := x
              have hfb : formBad (x0, x1, x2) = (decide (x0 < 0) && (decide (0 ≤ x1) || decide (0 ≤ x2))) := rfl
              by_cases q0 : x0 < 0
              · rw [decide_eq_true q0] at hfb
                by_cases q1 : 0 ≤ x1
                · have hf : Hid (chkL (l, hd, tl) = 4) := Lib.hid (by rw [hC2.out, anyN_yes hlt (by rw [HX.out, hfb, decide_eq_true q1]; rfl)]; rfl)
                  clear hfb
                  go_wp2_with fail
                  go_ret
                  exact ⟨ret_int hf.out.symm, by have hF := HF.out; unfold Fr at hF; (repeat (first | (with_reducible exact Below.refl _ _) | ((with_reducible refine below_alloc ?_ ?_ _); · (first | omega | (simp; done) | (simp; omega))) | ((with_reducible refine below_setCell ?_ ?_ _); · (first | omega | (simp; done) | (simp; omega))) | (with_reducible refine Below.drew ?_) | (with_reducible refine below_drewN ?_ _) | ((with_reducible refine below_call (by assumption) ?_ ?_); · (first | omega | (simp; done) | (simp; omega)))))⟩
                · rw [decide_eq_false q1] at hfb
                  have q1' : x1 < 0 := by omega
                  clear q1
                  by_cases q2 : 0 ≤ x2
                  · have hf : Hid (chkL (l, hd, tl) = 4) := Lib.hid (by rw [hC2.out, anyN_yes hlt (by rw [HX.out, hfb, decide_eq_true q2]; rfl)]; rfl)
                    clear hfb
                    go_wp2_with fail
                    go_ret
                    exact ⟨ret_int hf.out.symm, by have hF := HF.out; unfold Fr at hF; (repeat (first | (with_reducible exact Below.refl _ _) | ((with_reducible refine below_alloc ?_ ?_ _); · (first | omega | (simp; done) | (simp; omega))) | ((with_reducible refine below_setCell ?_ ?_ _); · (first | omega | (simp; done) | (simp; omega))) | (with_reducible refine Below.drew ?_) | (with_reducible refine below_drewN ?_ _) | ((with_reducible refine below_call (by assumption) ?_ ?_); · (first | omega | (simp; done) | (simp; omega)))))⟩
                  · have hf : Hid (formBad (x0, x1, x2) = false) := Lib.hid (by rw [hfb, decide_eq_false q2]; rfl)
                    have q2' : x2 < 0 := by omega
                    clear hfb q2
                    go_wp2_with fail
                    go_roundw
                    case rel =>
                      refine ⟨k + 1, by go_num, by omega, fun j hj hjk => ?_, Fr.call HF.out ?_⟩
                      · by_cases e : j = k
                        · subst e; rw [HX.out]; exact hf.out
                        · exact HK.out j hj (by omega)
                      · (repeat (first | (with_reducible exact Below.refl _ _) | ((with_reducible refine below_alloc ?_ ?_ _); · (first | omega | (simp; done) | (simp; omega))) | ((with_reducible refine below_setCell ?_ ?_ _); · (first | omega | (simp; done) | (simp; omega))) | (with_reducible refine Below.drew ?_) | (with_reducible refine below_drewN ?_ _) | ((with_reducible refine below_call (by assumption) ?_ ?_); · (first | omega | (simp; done) | (simp; omega)))))
                    case measure => simp [intOf]; omega
              · have hf : Hid (formBad (x0, x1, x2) = false) := Lib.hid (by rw [hfb, decide_eq_false q0]; rfl)
                have q0' : 0 ≤ x0 := by omega
                clear hfb q0
                go_wp2_with fail
                go_roundw
                case rel =>
                  refine ⟨k + 1, by go_num, by omega, fun j hj hjk => ?_, Fr.call HF.out ?_⟩
                  · by_cases e : j = k
                    · subst e; rw [HX.out]; exact hf.out
                    · exact HK.out j hj (by omega)
                  · (repeat (first | (with_reducible exact Below.refl _ _) | ((with_reducible refine below_alloc ?_ ?_ _); · (first | omega | (simp; done) | (simp; omega))) | ((with_reducible refine below_setCell ?_ ?_ _); · (first | omega | (simp; done) | (simp; omega))) | (with_reducible refine Below.drew ?_) | (with_reducible refine below_drewN ?_ _) | ((with_reducible refine below_call (by assumption) ?_ ?_); · (first | omega | (simp; done) | (simp; omega)))))
                case measure => simp [intOf]; omega
            · obtain rfl : k = l.length := by omega
              have hC3 : Hid (chkL (l, hd, tl) = if (List.range hd.length).all (rightB (l, hd, tl)) then 0 else 10) := Lib.hid (by rw [hC2.out, anyN_no (fun j hj => HK.out j hj hj)]; rfl)
              clear hlt
              go_wp2_with fail
              obtain ⟨wo, hwo⟩ : ∃ x, x = wr := ⟨_, rfl⟩
              subst hwo
              clear e0 e1 e2 hzr hs
              go_loopw [5] (fun i wr => ∃ k : Nat, i = .int .i64 k ∧ k ≤ hd.length ∧ (∀ j, j < hd.length → j < k → rightB (l, hd, tl) j = true) ∧ Fr wt wr) (fun i _ => hd.length - (intOf i).toNat)
              case atStart => exact ⟨0, rfl, by omega, fun j hj h => by omega, HF.out⟩
              case round =>
                obtain ⟨k, rfl, hk, hok, hF⟩ := hrel
                have HK := Lib.hid hok
                have e0 := Fr.at hF HE.out.1
                have e1 := Fr.at hF HE.out.2.1
                have e2 := Fr.at hF HE.out.2.2
                have hzr : w.heap.size < wr.heap.size := World.block_lt_of_cell? _ _ e0
                have HF2 := Lib.hid hF
                clear hok hF
                by_cases hlt : k < hd.length
                · have hlt' : (k : Int) < hd.length := by omega
                  have cc := cr k wr (Fr.fin hB HF2.out) HR.out hlt (by rw [HB3.out]; exact hlt)
                  cases q : rightB (l, hd, tl) k
                  · rw [q] at cc
                    have hf : Hid (chkL (l, hd, tl) = 10) := Lib.hid (by rw [hC3.out, if_neg]; intro h; rw [List.all_eq_true] at h; have := h k (List.mem_range.2 hlt); rw [q] at this; cases this)
                    clear q
                    go_wp2_with fail
                    refine cc.mono ?_; rintro e w2 ⟨rfl, hb2⟩
                    go_wp2_with fail
                    go_ret
                    exact ⟨ret_int hf.out.symm, by have hF := Fr.call HF2.out hb2; exact Fr.fin hB hF⟩
                  · rw [q] at cc
                    have hf := Lib.hid q
                    clear q
                    go_wp2_with fail
                    refine cc.mono ?_; rintro e w2 ⟨rfl, hb2⟩
                    go_wp2_with fail
                    go_roundw
                    case rel =>
                      refine ⟨k + 1, by go_num, by omega, fun j hj hjk => ?_, Fr.call HF2.out hb2⟩
                      by_cases e : j = k
                      · subst e; exact hf.out
                      · exact HK.out j hj (by omega)
                    case measure => simp [intOf]; omega
                · obtain rfl : k = hd.length := by omega
                  have hf : Hid (chkL (l, hd, tl) = 0) := Lib.hid (by rw [hC3.out, if_pos]; rw [List.all_eq_true]; intro j hj; exact HK.out j (List.mem_range.1 hj) (List.mem_range.1 hj))
                  clear hlt
                  go_wp2_with fail
                  go_ret
                  exact ⟨ret_int hf.out.symm, Fr.fin hB HF2.out⟩
      · have b3' : ((tl.length : Int) != hd.length) = true := by simp; omega
        rw [decide_eq_false b3] at hLB
        have hf : Hid (chkL (l, hd, tl) = 5) := Lib.hid (by rw [hCK, hLB]; rfl)
        clear hLB hCK b1 b2 b3
        go_enter Try.func23, Try.ntmps23
        go_wp2_with fail
        refine (i1 _).mono ?_; rintro e w1 ⟨rfl, hb1⟩
        obtain ⟨hk1, hf1, hz1⟩ := bcellN (n := w.heap.size + 1) (by (try simp only [World.size_drew, World.size_alloc, World.size_setCell]); omega) hb1; have hz1_0 : w.heap.size < w1.heap.size := (by omega)
        go_wp2_with fail
        refine (i2 _).mono ?_; rintro e w2 ⟨rfl, hb2⟩
        obtain ⟨hk2, hf2, hz2⟩ := bcellN (n := w.heap.size + 1) (by (try simp only [World.size_drew, World.size_alloc, World.size_setCell]); omega) hb2; have hz2_0 : w.heap.size < w2.heap.size := (by omega)
        go_wp2_with fail
        go_ret
        exact ⟨ret_int hf.out.symm, by (repeat (first | (with_reducible exact Below.refl _ _) | ((with_reducible refine below_alloc ?_ ?_ _); · (first | omega | (simp; done) | (simp; omega))) | ((with_reducible refine below_setCell ?_ ?_ _); · (first | omega | (simp; done) | (simp; omega))) | (with_reducible refine Below.drew ?_) | (with_reducible refine below_drewN ?_ _) | ((with_reducible refine below_call (by assumption) ?_ ?_); · (first | omega | (simp; done) | (simp; omega)))))⟩
end Go.Proofs.Ytkcenadenmkgnaa
