/- Contracts of layer 4, the program's: isInRange; whether one in no list leads to another. -/
import Derived.Test.YtkcenadenmkgnaaC5A
namespace Go.Proofs.Ytkcenadenmkgnaa
open Go.RowKit
set_option linter.unusedVariables false
set_option linter.unusedSimpArgs false

theorem any_noN {l : List Nod} {f : Nod → Bool} (h : ∀ j (hj : j < l.length), f l[j] = false) : l.any f = false := anyN_no h
set_option maxRecDepth 100000 in
set_option maxHeartbeats 4000000 in
theorem inrange_any (vn vh vt : Value) (st : LSt) (w : World) (hv : IsLS w vn vh vt st) (h1 : st.1.length ≤ 1048576) (h2 : st.2.1.length ≤ 1048576) (h3 : st.2.2.length = st.2.1.length) :
    Calls Try.prog 48 #[.agg #[vn, vh, vt]] w fun e w' => e = .returned (.bool (linksB st)) ∧ Below w.heap.size w w' := by
  obtain ⟨l, hd, tl⟩ := st
  replace h1 : l.length ≤ 1048576 := h1
  replace h2 : hd.length ≤ 1048576 := h2
  replace h3 : tl.length = hd.length := h3
  obtain ⟨⟨pn, cn, rfl, hn⟩, ⟨ph, ch, rfl, hh⟩, ⟨pt, ct, rfl, ht⟩⟩ := hv
  have HN := Lib.hid hn
  have HH := Lib.hid hh
  have HT := Lib.hid ht
  have H3 := Lib.hid h3
  rw [h3]
  clear hn hh ht h3
  have h1' : (l.length : Int) ≤ 1048576 := by omega
  have h2' : (hd.length : Int) ≤ 1048576 := by omega
  have HL : Hid (linksB (l, hd, tl) = (l.all (nodOk ((hd.length : Int) - 1) ((l.length : Int) - 1)) && (hd.all (fun x => inB x (-1) ((l.length : Int) - 1)) && tl.all (fun x => inB x (-1) ((l.length : Int) - 1))))) := Lib.hid rfl
  have cl := fun (a : Int) (W : World) (h : W.cell? ⟨w.heap.size, 0, none⟩ = some (.slice pn l.length cn)) => leads_any w.heap.size pn l.length cn a W h
  have ch0 := fun (a : Int) (W : World) => hasI_any ph hd.length ch a W
  go_enter Try.func48, Try.ntmps48
  go_wp2
  refine gen_world (F := fun wt => (wt.cell? ⟨w.heap.size, 0, none⟩ = some (.slice pn l.length cn) ∧ wt.cell? ⟨w.heap.size, 1, none⟩ = some (.slice ph hd.length ch) ∧ wt.cell? ⟨w.heap.size, 2, none⟩ = some (.slice pt hd.length ct)) ∧ Below w.heap.size w wt ∧ w.heap.size < wt.heap.size) ⟨⟨by simp [go_sem], by simp [go_sem], by simp [go_sem]⟩, by (repeat (first | (with_reducible exact Below.refl _ _) | ((with_reducible refine below_alloc ?_ ?_ _); · (first | omega | (simp; done) | (simp; omega))) | ((with_reducible refine below_setCell ?_ ?_ _); · (first | omega | (simp; done) | (simp; omega))) | (with_reducible refine Below.drew ?_) | (with_reducible refine below_drewN ?_ _) | ((with_reducible refine below_call (by assumption) ?_ ?_); · (first | omega | (simp; done) | (simp; omega))))), by simp⟩ (fun wt hF => ?_)
  obtain ⟨⟨e0, e1, e2⟩, hB, hz⟩ := hF
  have HE := Lib.hid (And.intro e0 (And.intro e1 e2))
  clear e0 e1 e2
  go_loopw [11] (fun i wr => ∃ k : Nat, i = .int .i64 k ∧ k ≤ l.length ∧ (∀ j (hj : j < l.length), j < k → nodOk ((hd.length : Int) - 1) ((l.length : Int) - 1) l[j] = true) ∧ Fr wt wr) (fun i _ => l.length - (intOf i).toNat)
  case atStart => exact ⟨0, rfl, by omega, fun j hj h => by omega, Fr.refl _⟩
  case round =>
    obtain ⟨k, rfl, hk, hok, hF⟩ := hrel
    have HK := Lib.hid hok
    have e0 := Fr.at hF HE.out.1
    have e1 := Fr.at hF HE.out.2.1
    have e2 := Fr.at hF HE.out.2.2
    have hzr : w.heap.size < wr.heap.size := World.block_lt_of_cell? _ _ e0
    have hs := Below.size hF
    clear hok
    by_cases hlt : k < l.length
    · have hlt' : (k : Int) < l.length := by omega
      obtain ⟨b, off, rfl, d0, d1, d2⟩ := HN.out k hlt
      have c0 := Fr.at (Fr.fin hB hF) d0
      have c1 := Fr.at (Fr.fin hB hF) d1
      have c2 := Fr.at (Fr.fin hB hF) d2
      have hbw : b < wr.heap.size := World.block_lt_of_cell? _ _ c0
      obtain ⟨x, hx⟩ : ∃ x, l[k] = x := ⟨_, rfl⟩
      rw [hx] at c0 c1 c2
      have HX := Lib.hid hx
      clear d0 d1 d2 hx
      obtain ⟨x0, x1, x2⟩ := x
      have i0 := fun W => ch0 x0 W
      have i1 := fun W h => cl x1 W h
      have i2 := fun W h => cl x2 W h
      have hno : nodOk ((hd.length : Int) - 1) ((l.length : Int) - 1) (x0, x1, x2) = (inB x0 (-1) ((hd.length : Int) - 1) && (inB x1 (-1) ((l.length : Int) - 1) && inB x2 (-1) ((l.length : Int) - 1))) := rfl
      have HNO := Lib.hid hno
      have HF := Lib.hid hF
      clear hno hF
      by_cases q : x0 = -1
      · subst q
        cases b1 : inB x1 (-1) ((l.length : Int) - 1)
        · rw [b1] at i1
          have hf : Hid (linksB (l, hd, tl) = false) := Lib.hid (by rw [HL.out, all_no hlt (by rw [HX.out, HNO.out, inB_m1 hd.length, b1]; rfl)]; rfl)
          clear b1
          go_wp2_with fail
          refine (i1 _ (by first | assumption | (simp [go_sem, *]; done))).mono ?_; rintro e w3 ⟨rfl, hb3⟩
          obtain ⟨hk3, hf3, hz3⟩ := bcellN (n := w.heap.size + 1) (by (try simp only [World.size_drew, World.size_alloc, World.size_setCell]); omega) hb3; have hz3_0 : w.heap.size < w3.heap.size := (by omega); obtain ⟨hk3wr, hf3wr, hz3wr⟩ := bcellAt (b := wr.heap.size) (by (try simp only [World.size_drew, World.size_alloc, World.size_setCell]); omega) hb3
          go_wp2_with fail
          go_ret
          exact ⟨ret_bool hf.out.symm, by have hF := HF.out; unfold Fr at hF; (repeat (first | (with_reducible exact Below.refl _ _) | ((with_reducible refine below_alloc ?_ ?_ _); · (first | omega | (simp; done) | (simp; omega))) | ((with_reducible refine below_setCell ?_ ?_ _); · (first | omega | (simp; done) | (simp; omega))) | (with_reducible refine Below.drew ?_) | (with_reducible refine below_drewN ?_ _) | ((with_reducible refine below_call (by assumption) ?_ ?_); · (first | omega | (simp; done) | (simp; omega)))))⟩
        · rw [b1] at i1
          cases b2 : inB x2 (-1) ((l.length : Int) - 1)
          · rw [b2] at i2
            have hf : Hid (linksB (l, hd, tl) = false) := Lib.hid (by rw [HL.out, all_no hlt (by rw [HX.out, HNO.out, inB_m1 hd.length, b1, b2]; rfl)]; rfl)
            clear b1 b2
            go_wp2_with fail
            refine (i1 _ (by first | assumption | (simp [go_sem, *]; done))).mono ?_; rintro e w3 ⟨rfl, hb3⟩
            obtain ⟨hk3, hf3, hz3⟩ := bcellN (n := w.heap.size + 1) (by (try simp only [World.size_drew, World.size_alloc, World.size_setCell]); omega) hb3; have hz3_0 : w.heap.size < w3.heap.size := (by omega); obtain ⟨hk3wr, hf3wr, hz3wr⟩ := bcellAt (b := wr.heap.size) (by (try simp only [World.size_drew, World.size_alloc, World.size_setCell]); omega) hb3
            go_wp2_with fail
            refine (i2 _ (by first | assumption | (simp [go_sem, *]; done))).mono ?_; rintro e w4 ⟨rfl, hb4⟩
            obtain ⟨hk4, hf4, hz4⟩ := bcellN (n := w.heap.size + 1) (by (try simp only [World.size_drew, World.size_alloc, World.size_setCell]); omega) hb4; have hz4_0 : w.heap.size < w4.heap.size := (by omega); obtain ⟨hk4wr, hf4wr, hz4wr⟩ := bcellAt (b := wr.heap.size) (by (try simp only [World.size_drew, World.size_alloc, World.size_setCell]); omega) hb4
            go_wp2_with fail
            go_ret
            exact ⟨ret_bool hf.out.symm, by have hF := HF.out; unfold Fr at hF; (repeat (first | (with_reducible exact Below.refl _ _) | ((with_reducible refine below_alloc ?_ ?_ _); · (first | omega | (simp; done) | (simp; omega))) | ((with_reducible refine below_setCell ?_ ?_ _); · (first | omega | (simp; done) | (simp; omega))) | (with_reducible refine Below.drew ?_) | (with_reducible refine below_drewN ?_ _) | ((with_reducible refine below_call (by assumption) ?_ ?_); · (first | omega | (simp; done) | (simp; omega)))))⟩
          · rw [b2] at i2
            have hf : Hid (nodOk ((hd.length : Int) - 1) ((l.length : Int) - 1) (-1, x1, x2) = true) := Lib.hid (by rw [HNO.out, inB_m1 hd.length, b1, b2]; rfl)
            clear b1 b2
            go_wp2_with fail
            refine (i1 _ (by first | assumption | (simp [go_sem, *]; done))).mono ?_; rintro e w3 ⟨rfl, hb3⟩
            obtain ⟨hk3, hf3, hz3⟩ := bcellN (n := w.heap.size + 1) (by (try simp only [World.size_drew, World.size_alloc, World.size_setCell]); omega) hb3; have hz3_0 : w.heap.size < w3.heap.size := (by omega); obtain ⟨hk3wr, hf3wr, hz3wr⟩ := bcellAt (b := wr.heap.size) (by (try simp only [World.size_drew, World.size_alloc, World.size_setCell]); omega) hb3
            go_wp2_with fail
            refine (i2 _ (by first | assumption | (simp [go_sem, *]; done))).mono ?_; rintro e w4 ⟨rfl, hb4⟩
            obtain ⟨hk4, hf4, hz4⟩ := bcellN (n := w.heap.size + 1) (by (try simp only [World.size_drew, World.size_alloc, World.size_setCell]); omega) hb4; have hz4_0 : w.heap.size < w4.heap.size := (by omega); obtain ⟨hk4wr, hf4wr, hz4wr⟩ := bcellAt (b := wr.heap.size) (by (try simp only [World.size_drew, World.size_alloc, World.size_setCell]); omega) hb4
            go_wp2_with fail
            go_roundw
            case rel =>
              refine ⟨k + 1, by go_num, by omega, fun j hj hjk => ?_, ?_⟩
              · by_cases e : j = k
                · subst e; rw [HX.out]; exact hf.out
                · exact HK.out j hj (by omega)
              · refine Fr.call HF.out ?_
                (repeat (first | (with_reducible exact Below.refl _ _) | ((with_reducible refine below_alloc ?_ ?_ _); · (first | omega | (simp; done) | (simp; omega))) | ((with_reducible refine below_setCell ?_ ?_ _); · (first | omega | (simp; done) | (simp; omega))) | (with_reducible refine Below.drew ?_) | (with_reducible refine below_drewN ?_ _) | ((with_reducible refine below_call (by assumption) ?_ ?_); · (first | omega | (simp; done) | (simp; omega)))))
            case measure => simp [intOf]; omega
      · have b00 := inB_none (n := (hd.length : Int) - 1) q
        cases b0 : inB x0 0 ((hd.length : Int) - 1)
        · rw [b0] at i0
          have hf : Hid (linksB (l, hd, tl) = false) := Lib.hid (by rw [HL.out, all_no hlt (by rw [HX.out, HNO.out, b00, b0]; rfl)]; rfl)
          clear b0 b00
          go_wp2_with fail
          refine (i0 _).mono ?_; rintro e w2 ⟨rfl, hb2⟩
          obtain ⟨hk2, hf2, hz2⟩ := bcellN (n := w.heap.size + 1) (by (try simp only [World.size_drew, World.size_alloc, World.size_setCell]); omega) hb2; have hz2_0 : w.heap.size < w2.heap.size := (by omega); obtain ⟨hk2wr, hf2wr, hz2wr⟩ := bcellAt (b := wr.heap.size) (by (try simp only [World.size_drew, World.size_alloc, World.size_setCell]); omega) hb2
          go_wp2_with fail
          go_ret
          exact ⟨ret_bool hf.out.symm, by have hF := HF.out; unfold Fr at hF; (repeat (first | (with_reducible exact Below.refl _ _) | ((with_reducible refine below_alloc ?_ ?_ _); · (first | omega | (simp; done) | (simp; omega))) | ((with_reducible refine below_setCell ?_ ?_ _); · (first | omega | (simp; done) | (simp; omega))) | (with_reducible refine Below.drew ?_) | (with_reducible refine below_drewN ?_ _) | ((with_reducible refine below_call (by assumption) ?_ ?_); · (first | omega | (simp; done) | (simp; omega)))))⟩
        · rw [b0] at i0
          rw [b0] at b00
          have B00 := Lib.hid b00
          clear b0 b00
          cases b1 : inB x1 (-1) ((l.length : Int) - 1)
          · rw [b1] at i1
            have hf : Hid (linksB (l, hd, tl) = false) := Lib.hid (by rw [HL.out, all_no hlt (by rw [HX.out, HNO.out, B00.out, b1]; rfl)]; rfl)
            clear b1
            go_wp2_with fail
            refine (i0 _).mono ?_; rintro e w2 ⟨rfl, hb2⟩
            obtain ⟨hk2, hf2, hz2⟩ := bcellN (n := w.heap.size + 1) (by (try simp only [World.size_drew, World.size_alloc, World.size_setCell]); omega) hb2; have hz2_0 : w.heap.size < w2.heap.size := (by omega); obtain ⟨hk2wr, hf2wr, hz2wr⟩ := bcellAt (b := wr.heap.size) (by (try simp only [World.size_drew, World.size_alloc, World.size_setCell]); omega) hb2
            go_wp2_with fail
            refine (i1 _ (by first | assumption | (simp [go_sem, *]; done))).mono ?_; rintro e w3 ⟨rfl, hb3⟩
            obtain ⟨hk3, hf3, hz3⟩ := bcellN (n := w.heap.size + 1) (by (try simp only [World.size_drew, World.size_alloc, World.size_setCell]); omega) hb3; have hz3_0 : w.heap.size < w3.heap.size := (by omega); obtain ⟨hk3wr, hf3wr, hz3wr⟩ := bcellAt (b := wr.heap.size) (by (try simp only [World.size_drew, World.size_alloc, World.size_setCell]); omega) hb3
            go_wp2_with fail
            go_ret
            exact ⟨ret_bool hf.out.symm, by have hF := HF.out; unfold Fr at hF; (repeat (first | (with_reducible exact Below.refl _ _) | ((with_reducible refine below_alloc ?_ ?_ _); · (first | omega | (simp; done) | (simp; omega))) | ((with_reducible refine below_setCell ?_ ?_ _); · (first | omega | (simp; done) | (simp; omega))) | (with_reducible refine Below.drew ?_) | (with_reducible refine below_drewN ?_ _) | ((with_reducible refine below_call (by assumption) ?_ ?_); · (first | omega | (simp; done) | (simp; omega)))))⟩
          · rw [b1] at i1
            cases b2 : inB x2 (-1) ((l.length : Int) - 1)
            · rw [b2] at i2
              have hf : Hid (linksB (l, hd, tl) = false) := Lib.hid (by rw [HL.out, all_no hlt (by rw [HX.out, HNO.out, B00.out, b1, b2]; rfl)]; rfl)
              clear b1 b2
              go_wp2_with fail
              refine (i0 _).mono ?_; rintro e w2 ⟨rfl, hb2⟩
              obtain ⟨hk2, hf2, hz2⟩ := bcellN (n := w.heap.size + 1) (by (try simp only [World.size_drew, World.size_alloc, World.size_setCell]); omega) hb2; have hz2_0 : w.heap.size < w2.heap.size := (by omega); obtain ⟨hk2wr, hf2wr, hz2wr⟩ := bcellAt (b := wr.heap.size) (by (try simp only [World.size_drew, World.size_alloc, World.size_setCell]); omega) hb2
              go_wp2_with fail
              refine (i1 _ (by first | assumption | (simp [go_sem, *]; done))).mono ?_; rintro e w3 ⟨rfl, hb3⟩
              obtain ⟨hk3, hf3, hz3⟩ := bcellN (n := w.heap.size + 1) (by (try simp only [World.size_drew, World.size_alloc, World.size_setCell]); omega) hb3; have hz3_0 : w.heap.size < w3.heap.size := (by omega); obtain ⟨hk3wr, hf3wr, hz3wr⟩ := bcellAt (b := wr.heap.size) (by (try simp only [World.size_drew, World.size_alloc, World.size_setCell]); omega) hb3
              go_wp2_with fail
              refine (i2 _ (by first | assumption | (simp [go_sem, *]; done))).mono ?_; rintro e w4 ⟨rfl, hb4⟩
              obtain ⟨hk4, hf4, hz4⟩ := bcellN (n := w.heap.size + 1) (by (try simp only [World.size_drew, World.size_alloc, World.size_setCell]); omega) hb4; have hz4_0 : w.heap.size < w4.heap.size := (by omega); obtain ⟨hk4wr, hf4wr, hz4wr⟩ := bcellAt (b := wr.heap.size) (by (try simp only [World.size_drew, World.size_alloc, World.size_setCell]); omega) hb4
              go_wp2_with fail
              go_ret
              exact ⟨ret_bool hf.out.symm, by have hF := HF.out; unfold Fr at hF; (repeat (first | (with_reducible exact Below.refl _ _) | ((with_reducible refine below_alloc ?_ ?_ _); · (first | omega | (simp; done) | (simp; omega))) | ((with_reducible refine below_setCell ?_ ?_ _); · (first | omega | (simp; done) | (simp; omega))) | (with_reducible refine Below.drew ?_) | (with_reducible refine below_drewN ?_ _) | ((with_reducible refine below_call (by assumption) ?_ ?_); · (first | omega | (simp; done) | (simp; omega)))))⟩
            · rw [b2] at i2
              have hf : Hid (nodOk ((hd.length : Int) - 1) ((l.length : Int) - 1) (x0, x1, x2) = true) := Lib.hid (by rw [HNO.out, B00.out, b1, b2]; rfl)
              clear b1 b2
              go_wp2_with fail
              refine (i0 _).mono ?_; rintro e w2 ⟨rfl, hb2⟩
              obtain ⟨hk2, hf2, hz2⟩ := bcellN (n := w.heap.size + 1) (by (try simp only [World.size_drew, World.size_alloc, World.size_setCell]); omega) hb2; have hz2_0 : w.heap.size < w2.heap.size := (by omega); obtain ⟨hk2wr, hf2wr, hz2wr⟩ := bcellAt (b := wr.heap.size) (by (try simp only [World.size_drew, World.size_alloc, World.size_setCell]); omega) hb2
              go_wp2_with fail
              refine (i1 _ (by first | assumption | (simp [go_sem, *]; done))).mono ?_; rintro e w3 ⟨rfl, hb3⟩
              obtain ⟨hk3, hf3, hz3⟩ := bcellN (n := w.heap.size + 1) (by (try simp only [World.size_drew, World.size_alloc, World.size_setCell]); omega) hb3; have hz3_0 : w.heap.size < w3.heap.size := (by omega); obtain ⟨hk3wr, hf3wr, hz3wr⟩ := bcellAt (b := wr.heap.size) (by (try simp only [World.size_drew, World.size_alloc, World.size_setCell]); omega) hb3
              go_wp2_with fail
              refine (i2 _ (by first | assumption | (simp [go_sem, *]; done))).mono ?_; rintro e w4 ⟨rfl, hb4⟩
              obtain ⟨hk4, hf4, hz4⟩ := bcellN (n := w.heap.size + 1) (by (try simp only [World.size_drew, World.size_alloc, World.size_setCell]); omega) hb4; have hz4_0 : w.heap.size < w4.heap.size := (by omega); obtain ⟨hk4wr, hf4wr, hz4wr⟩ := bcellAt (b := wr.heap.size) (by (try simp only [World.size_drew, World.size_alloc, World.size_setCell]); omega) hb4
              go_wp2_with fail
              go_roundw
              case rel =>
                refine ⟨k + 1, by go_num, by omega, fun j hj hjk => ?_, ?_⟩
                · by_cases e : j = k
                  · subst e; rw [HX.out]; exact hf.out
                  · exact HK.out j hj (by omega)
                · refine Fr.call HF.out ?_
                  (repeat (first | (with_reducible exact Below.refl _ _) | ((with_reducible refine below_alloc ?_ ?_ _); · (first | omega | (simp; done) | (simp; omega))) | ((with_reducible refine below_setCell ?_ ?_ _); · (first | omega | (simp; done) | (simp; omega))) | (with_reducible refine Below.drew ?_) | (with_reducible refine below_drewN ?_ _) | ((with_reducible refine below_call (by assumption) ?_ ?_); · (first | omega | (simp; done) | (simp; omega)))))
              case measure => simp [intOf]; omega
    · obtain rfl : k = l.length := by omega
      have hA : Hid (linksB (l, hd, tl) = (hd.all (fun x => inB x (-1) ((l.length : Int) - 1)) && tl.all (fun x => inB x (-1) ((l.length : Int) - 1)))) := Lib.hid (by rw [HL.out, all_yes (fun j hj => HK.out j hj hj)]; rfl)
      have HF := Lib.hid hF
      clear hF hlt
      go_wp2_with fail
      obtain ⟨wo6, hwo⟩ : ∃ x, x = wr := ⟨_, rfl⟩
      subst hwo
      go_loopw [44] (fun i wr => ∃ k : Nat, i = .int .i64 k ∧ k ≤ hd.length ∧ (∀ j (hj : j < hd.length), j < k → inB hd[j] (-1) ((l.length : Int) - 1) = true) ∧ (∀ j (hj : j < tl.length), j < k → inB tl[j] (-1) ((l.length : Int) - 1) = true) ∧ Fr wt wr) (fun i _ => hd.length - (intOf i).toNat)
      case atStart => exact ⟨0, rfl, by omega, fun j hj h => by omega, fun j hj h => by omega, HF.out⟩
      case round =>
        clear e0 e1 e2 hzr hs
        obtain ⟨k, rfl, hk, hok, hok2, hF⟩ := hrel
        have HK := Lib.hid (And.intro hok hok2)
        have e0 := Fr.at hF HE.out.1
        have e1 := Fr.at hF HE.out.2.1
        have e2 := Fr.at hF HE.out.2.2
        have hzr : w.heap.size < wr.heap.size := World.block_lt_of_cell? _ _ e0
        have hs := Below.size hF
        clear hok hok2
        by_cases hlt : k < hd.length
        · have hlt' : (k : Int) < hd.length := by omega
          have hltt : k < tl.length := by rw [H3.out]; exact hlt
          obtain ⟨b, off, rfl, d0⟩ := HH.out k hlt
          have c0 := Fr.at (Fr.fin hB hF) d0
          obtain ⟨b', off', rfl, d1⟩ := HT.out k hltt
          have c1 := Fr.at (Fr.fin hB hF) d1
          have hbw : b < wr.heap.size := World.block_lt_of_cell? _ _ c0
          have hbw' : b' < wr.heap.size := World.block_lt_of_cell? _ _ c1
          obtain ⟨x, hx⟩ : ∃ x, hd[k] = x := ⟨_, rfl⟩
          obtain ⟨y, hy⟩ : ∃ y, tl[k] = y := ⟨_, rfl⟩
          rw [hx] at c0
          rw [hy] at c1
          have HX := Lib.hid (And.intro hx hy)
          have D1 := Lib.hid d1
          clear d0 d1 hx hy
          have i0 := fun W h => cl x W h
          have i1 := fun W h => cl y W h
          have HF2 := Lib.hid hF
          clear hF
          cases b0 : inB x (-1) ((l.length : Int) - 1)
          · rw [b0] at i0
            have hf : Hid (linksB (l, hd, tl) = false) := Lib.hid (by rw [hA.out, all_no (f := fun x => inB x (-1) ((l.length : Int) - 1)) hlt (by rw [HX.out.1, b0])]; rfl)
            clear b0
            go_wp2_with fail
            refine (i0 _ (by assumption)).mono ?_; rintro e w2 ⟨rfl, hb2⟩
            obtain ⟨hk2, hf2, hz2⟩ := bcellN (n := w.heap.size + 1) (by (try simp only [World.size_drew, World.size_alloc, World.size_setCell]); omega) hb2; have hz2_0 : w.heap.size < w2.heap.size := (by omega)
            go_wp2_with fail
            go_ret
            exact ⟨ret_bool hf.out.symm, by have hF := HF2.out; unfold Fr at hF; (repeat (first | (with_reducible exact Below.refl _ _) | ((with_reducible refine below_alloc ?_ ?_ _); · (first | omega | (simp; done) | (simp; omega))) | ((with_reducible refine below_setCell ?_ ?_ _); · (first | omega | (simp; done) | (simp; omega))) | (with_reducible refine Below.drew ?_) | (with_reducible refine below_drewN ?_ _) | ((with_reducible refine below_call (by assumption) ?_ ?_); · (first | omega | (simp; done) | (simp; omega)))))⟩
          · rw [b0] at i0
            cases b1 : inB y (-1) ((l.length : Int) - 1)
            · rw [b1] at i1
              have hf : Hid (linksB (l, hd, tl) = false) := Lib.hid (by rw [hA.out, all_no (l := tl) (f := fun x => inB x (-1) ((l.length : Int) - 1)) hltt (by rw [HX.out.2, b1]), Bool.and_false])
              clear b0 b1
              go_wp2_with fail
              refine (i0 _ (by assumption)).mono ?_; rintro e w2 ⟨rfl, hb2⟩
              obtain ⟨hk2, hf2, hz2⟩ := bcellN (n := w.heap.size + 1) (by (try simp only [World.size_drew, World.size_alloc, World.size_setCell]); omega) hb2; have hz2_0 : w.heap.size < w2.heap.size := (by omega)
              have c1' := (hb2.cell (p := ⟨b', off' + k, none⟩) hbw').trans c1
              go_wp2_with fail
              refine (i1 _ (by first | assumption | (simp [go_sem, *]; done))).mono ?_; rintro e w3 ⟨rfl, hb3⟩
              obtain ⟨hk3, hf3, hz3⟩ := bcellN (n := w.heap.size + 1) (by (try simp only [World.size_drew, World.size_alloc, World.size_setCell]); omega) hb3; have hz3_0 : w.heap.size < w3.heap.size := (by omega)
              go_wp2_with fail
              go_ret
              exact ⟨ret_bool hf.out.symm, by have hF := HF2.out; unfold Fr at hF; (repeat (first | (with_reducible exact Below.refl _ _) | ((with_reducible refine below_alloc ?_ ?_ _); · (first | omega | (simp; done) | (simp; omega))) | ((with_reducible refine below_setCell ?_ ?_ _); · (first | omega | (simp; done) | (simp; omega))) | (with_reducible refine Below.drew ?_) | (with_reducible refine below_drewN ?_ _) | ((with_reducible refine below_call (by assumption) ?_ ?_); · (first | omega | (simp; done) | (simp; omega)))))⟩
            · rw [b1] at i1
              have hf := Lib.hid (And.intro b0 b1)
              clear b0 b1
              go_wp2_with fail
              refine (i0 _ (by assumption)).mono ?_; rintro e w2 ⟨rfl, hb2⟩
              obtain ⟨hk2, hf2, hz2⟩ := bcellN (n := w.heap.size + 1) (by (try simp only [World.size_drew, World.size_alloc, World.size_setCell]); omega) hb2; have hz2_0 : w.heap.size < w2.heap.size := (by omega)
              have c1' := (hb2.cell (p := ⟨b', off' + k, none⟩) hbw').trans c1
              go_wp2_with fail
              refine (i1 _ (by first | assumption | (simp [go_sem, *]; done))).mono ?_; rintro e w3 ⟨rfl, hb3⟩
              obtain ⟨hk3, hf3, hz3⟩ := bcellN (n := w.heap.size + 1) (by (try simp only [World.size_drew, World.size_alloc, World.size_setCell]); omega) hb3; have hz3_0 : w.heap.size < w3.heap.size := (by omega)
              go_wp2_with fail
              go_roundw
              case rel =>
                refine ⟨k + 1, by go_num, by omega, fun j hj hjk => ?_, fun j hj hjk => ?_, ?_⟩
                · by_cases e : j = k
                  · subst e; rw [HX.out.1]; exact hf.out.1
                  · exact HK.out.1 j hj (by omega)
                · by_cases e : j = k
                  · subst e; rw [HX.out.2]; exact hf.out.2
                  · exact HK.out.2 j hj (by omega)
                · exact Fr.call (Fr.call HF2.out hb2) hb3
              case measure => simp [intOf]; omega
        · obtain rfl : k = hd.length := by omega
          have hf : Hid (linksB (l, hd, tl) = true) := Lib.hid (by rw [hA.out, all_yes (f := fun x => inB x (-1) ((l.length : Int) - 1)) (fun j hj => HK.out.1 j hj hj), all_yes (f := fun x => inB x (-1) ((l.length : Int) - 1)) (fun j hj => HK.out.2 j hj (by have := H3.out; omega))]; rfl)
          clear hlt
          go_wp2_with fail
          go_ret
          exact ⟨ret_bool hf.out.symm, Fr.fin hB hF⟩

set_option maxRecDepth 100000 in
set_option maxHeartbeats 1000000 in
theorem indexstray_any (v : Value) (l : List Nod) (w : World) (hv : IsN w v l) (hl : l.length ≤ 1048576) :
    Calls Try.prog 64 #[v, .func (.func 50) #[] #[]] w fun e w' => ∃ r, e = .returned (.int .i64 r) ∧ decide (0 ≤ r) = l.any strayB ∧ Below w.heap.size w w' := by
  obtain ⟨p, cap, rfl, hp⟩ := hv
  have Hp := Lib.hid hp
  clear hp
  go_enter Try.func64, Try.ntmps64
  go_wp2
  go_loopw [8] (fun i wr => ∃ k : Nat, i = .int .i64 k ∧ k ≤ l.length ∧ (∀ j (hj : j < l.length), j < k → strayB l[j] = false) ∧ Below w.heap.size w wr) (fun i _ => l.length - (intOf i).toNat)
  case atStart => exact ⟨0, rfl, by omega, fun j hj h => by omega, Below.refl _ _⟩
  case round =>
    obtain ⟨k, rfl, hk, hok, hB⟩ := hrel
    have HK := Lib.hid hok
    clear hok
    by_cases hlt : k < l.length
    · have hlt' : (k : Int) < l.length := by omega
      obtain ⟨b, off, rfl, d0, d1, d2⟩ := Hp.out k hlt
      have c0 := (hB.cell (p := ⟨b, off + k * 3, none⟩) (World.block_lt_of_cell? _ _ d0)).trans d0
      have c1 := (hB.cell (p := ⟨b, off + k * 3 + 1, none⟩) (World.block_lt_of_cell? _ _ d1)).trans d1
      have c2 := (hB.cell (p := ⟨b, off + k * 3 + 2, none⟩) (World.block_lt_of_cell? _ _ d2)).trans d2
      obtain ⟨c, hc⟩ : ∃ c, l[k] = c := ⟨_, rfl⟩
      rw [hc] at c0 c1 c2
      have HC := Lib.hid hc
      clear d0 d1 d2 hc
      have hcon := fun W => stray_any c W
      have hz := hB.size
      cases hb : strayB c
      · rw [hb] at hcon
        have HB := Lib.hid hb
        clear hb
        go_wp2_with (go_at_call 50; refine (hcon _).mono ?_; rintro e w2 ⟨rfl, hb2⟩)
        go_roundw
        case rel => exact ⟨k + 1, by go_num, by omega, fun j hj hjk => by
          by_cases e : j = k
          · subst e; rw [HC.out]; exact HB.out
          · exact HK.out j hj (by omega), by (repeat (first | (with_reducible exact Below.refl _ _) | ((with_reducible refine below_alloc ?_ ?_ _); · (first | omega | (simp; done) | (simp; omega))) | ((with_reducible refine below_setCell ?_ ?_ _); · (first | omega | (simp; done) | (simp; omega))) | (with_reducible refine Below.drew ?_) | (with_reducible refine below_drewN ?_ _) | ((with_reducible refine below_call (by assumption) ?_ ?_); · (first | omega | (simp; done) | (simp; omega)))))⟩
        case measure => simp [intOf]; omega
      · rw [hb] at hcon
        have HB := Lib.hid (anyN_yes (f := strayB) hlt (by rw [HC.out]; exact hb))
        clear hb
        go_wp2_with (go_at_call 50; refine (hcon _).mono ?_; rintro e w2 ⟨rfl, hb2⟩)
        go_ret
        exact ⟨_, rfl, by rw [HB.out]; simp, by (repeat (first | (with_reducible exact Below.refl _ _) | ((with_reducible refine below_alloc ?_ ?_ _); · (first | omega | (simp; done) | (simp; omega))) | ((with_reducible refine below_setCell ?_ ?_ _); · (first | omega | (simp; done) | (simp; omega))) | (with_reducible refine Below.drew ?_) | (with_reducible refine below_drewN ?_ _) | ((with_reducible refine below_call (by assumption) ?_ ?_); · (first | omega | (simp; done) | (simp; omega)))))⟩
    · obtain rfl : k = l.length := by omega
      go_wp2
      go_ret
      exact ⟨_, rfl, by rw [anyN_no (fun j hj => HK.out j hj hj)]; decide, hB⟩
set_option maxRecDepth 100000 in
set_option maxHeartbeats 1000000 in
theorem containsstray_any (v : Value) (l : List Nod) (w : World) (hv : IsN w v l) (hl : l.length ≤ 1048576) :
    Calls Try.prog 49 #[v, .func (.func 50) #[] #[]] w fun e w' => e = .returned (.bool (l.any strayB)) ∧ Below w.heap.size w w' := by
  go_enter Try.func49, Try.ntmps49
  go_wp2_with (go_at_call 64; refine (indexstray_any _ l _ hv hl).mono ?_; rintro e w2 ⟨r, rfl, hr, hb2⟩; replace hr := Lib.hid hr)
  go_ret
  exact ⟨ret_bool hr.out, by (repeat (first | (with_reducible exact Below.refl _ _) | ((with_reducible refine below_alloc ?_ ?_ _); · (first | omega | (simp; done) | (simp; omega))) | ((with_reducible refine below_setCell ?_ ?_ _); · (first | omega | (simp; done) | (simp; omega))) | (with_reducible refine Below.drew ?_) | (with_reducible refine below_drewN ?_ _) | ((with_reducible refine below_call (by assumption) ?_ ?_); · (first | omega | (simp; done) | (simp; omega)))))⟩
theorem stray_form {st : LSt} (h : linksB st = true) : st.1.any strayB = st.1.any formBad := by
  have key : ∀ j (hj : j < st.1.length), strayB st.1[j] = formBad st.1[j] := by
    intro j hj
    have hl := links_nod h hj
    obtain ⟨x, hx⟩ : ∃ x, st.1[j] = x := ⟨_, rfl⟩
    rw [hx] at hl ⊢
    obtain ⟨x0, x1, x2⟩ := x
    simp only at hl
    unfold strayB formBad
    rw [Bool.eq_iff_iff]
    simp only [Bool.and_eq_true, Bool.or_eq_true, Bool.not_eq_true', Bool.and_eq_false_iff, beq_iff_eq, beq_eq_false_iff_ne, decide_eq_true_eq, ne_eq]
    omega
  cases hs : st.1.any formBad
  · rw [List.any_eq_false] at hs
    exact anyN_no fun j hj => by rw [key j hj]; simpa using hs _ (List.getElem_mem hj)
  · rw [List.any_eq_true] at hs
    obtain ⟨x, hx, hb⟩ := hs
    obtain ⟨j, hj, rfl⟩ := List.mem_iff_getElem.1 hx
    exact anyN_yes hj (by rw [key j hj]; exact hb)
end Go.Proofs.Ytkcenadenmkgnaa
