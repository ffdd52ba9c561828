/- Contracts of layer 4, the document's: links. -/
import Derived.Test.YtkcenadenmkgnaaC4A
namespace Go.Proofs.Ytkcenadenmkgnaa
open Go.RowKit
set_option linter.unusedVariables false
set_option linter.unusedSimpArgs false

/-- may the links of a place be? h: the last list, n: the last place -/
def nodOk (h n : Int) (x : Nod) : Bool := inB x.1 (-1) h && (inB x.2.1 (-1) n && inB x.2.2 (-1) n)
def linksB (st : LSt) : Bool := st.1.all (nodOk (st.2.1.length - 1) (st.1.length - 1)) && (st.2.1.all (fun x => inB x (-1) (st.1.length - 1)) && st.2.2.all (fun x => inB x (-1) (st.1.length - 1)))
theorem all_no {α : Type} {l : List α} {f : α → Bool} {j : Nat} (hj : j < l.length) (h : f l[j] = false) : l.all f = false := by
  rw [List.all_eq_false]; exact ⟨l[j], List.getElem_mem _, by simp [h]⟩
theorem all_yes {α : Type} {l : List α} {f : α → Bool} (h : ∀ j (hj : j < l.length), f l[j] = true) : l.all f = true := by
  rw [List.all_eq_true]; intro x hx
  obtain ⟨j, hj, rfl⟩ := List.mem_iff_getElem.1 hx
  exact h j hj

set_option maxRecDepth 100000 in
set_option maxHeartbeats 4000000 in
theorem links_any (vn vh vt : Value) (st : LSt) (w : World) (hv : IsLS w vn vh vt st) (h1 : st.1.length ≤ 1048576) (h2 : st.2.1.length ≤ 1048576) (h3 : st.2.2.length ≤ 1048576) :
    Calls Try.prog 52 #[.agg #[vn, vh, vt]] w fun e w' => e = .returned (.bool (linksB st)) ∧ Below w.heap.size w w' := by
  obtain ⟨l, hd, tl⟩ := st
  replace h1 : l.length ≤ 1048576 := h1
  replace h2 : hd.length ≤ 1048576 := h2
  replace h3 : tl.length ≤ 1048576 := h3
  obtain ⟨⟨pn, cn, rfl, hn⟩, ⟨ph, ch, rfl, hh⟩, ⟨pt, ct, rfl, ht⟩⟩ := hv
  have HN := Lib.hid hn
  have HH := Lib.hid hh
  have HT := Lib.hid ht
  clear hn hh ht
  have h1' : (l.length : Int) ≤ 1048576 := by omega
  have h2' : (hd.length : Int) ≤ 1048576 := by omega
  have h3' : (tl.length : Int) ≤ 1048576 := by omega
  obtain ⟨n, hne⟩ : ∃ n, (l.length : Int) - 1 = n := ⟨_, rfl⟩
  obtain ⟨m, hme⟩ : ∃ m, (hd.length : Int) - 1 = m := ⟨_, rfl⟩
  have hw1 : IntKind.i64.wrap ((l.length : Int) - 1) = n := by rw [← hne]; exact IntWalk.i64_in _ (by omega)
  have hw2 : IntKind.i64.wrap ((hd.length : Int) - 1) = m := by rw [← hme]; exact IntWalk.i64_in _ (by omega)
  have hw3 : wrap64 ((l.length : Int) - 1) = n := by rw [← hne]; exact IntWalk.wrap64_in _ ⟨by omega, by omega⟩
  have hw4 : wrap64 ((hd.length : Int) - 1) = m := by rw [← hme]; exact IntWalk.wrap64_in _ ⟨by omega, by omega⟩
  have hL : linksB (l, hd, tl) = (l.all (nodOk m n) && (hd.all (fun x => inB x (-1) n) && tl.all (fun x => inB x (-1) n))) := by unfold linksB; rw [← hne, ← hme]
  have HL := Lib.hid hL
  clear hne hme hL
  go_enter Try.func52, Try.ntmps52
  go_wp2
  refine gen_world (F := fun wt => (wt.cell? ⟨w.heap.size, 0, none⟩ = some (.slice pn l.length cn) ∧ wt.cell? ⟨w.heap.size, 1, none⟩ = some (.slice ph hd.length ch) ∧ wt.cell? ⟨w.heap.size, 2, none⟩ = some (.slice pt tl.length ct)) ∧ Below w.heap.size w wt ∧ w.heap.size < wt.heap.size) ⟨⟨by simp [go_sem], by simp [go_sem], by simp [go_sem]⟩, by (repeat (first | (with_reducible exact Below.refl _ _) | ((with_reducible refine below_alloc ?_ ?_ _); · (first | omega | (simp; done) | (simp; omega))) | ((with_reducible refine below_setCell ?_ ?_ _); · (first | omega | (simp; done) | (simp; omega))) | (with_reducible refine Below.drew ?_) | (with_reducible refine below_drewN ?_ _) | ((with_reducible refine below_call (by assumption) ?_ ?_); · (first | omega | (simp; done) | (simp; omega))))), by simp⟩ (fun wt hF => ?_)
  obtain ⟨⟨e0, e1, e2⟩, hB, hz⟩ := hF
  have HE := Lib.hid (And.intro e0 (And.intro e1 e2))
  clear e0 e1 e2
  go_loopw [4] (fun i wr => ∃ k : Nat, i = .int .i64 k ∧ k ≤ l.length ∧ (∀ j (hj : j < l.length), j < k → nodOk m n l[j] = true) ∧ Fr wt wr) (fun i _ => l.length - (intOf i).toNat)
  case atStart => exact ⟨0, rfl, by omega, fun j hj h => by omega, Fr.refl _⟩
  case round =>
    obtain ⟨k, rfl, hk, hok, hF⟩ := hrel
    have HK := Lib.hid hok
    have e0 := Fr.at hF HE.out.1
    have e1 := Fr.at hF HE.out.2.1
    have e2 := Fr.at hF HE.out.2.2
    have hzr : w.heap.size < wr.heap.size := World.block_lt_of_cell? _ _ e0
    have hs := Below.size hF
    clear hok
    by_cases hlt : k < l.length
    · have hlt' : (k : Int) < l.length := by omega
      obtain ⟨b, off, rfl, d0, d1, d2⟩ := HN.out k hlt
      have c0 := Fr.at (Fr.fin hB hF) d0
      have c1 := Fr.at (Fr.fin hB hF) d1
      have c2 := Fr.at (Fr.fin hB hF) d2
      have hbw : b < wr.heap.size := World.block_lt_of_cell? _ _ c0
      obtain ⟨x, hx⟩ : ∃ x, l[k] = x := ⟨_, rfl⟩
      rw [hx] at c0 c1 c2
      have HX := Lib.hid hx
      clear d0 d1 d2 hx
      obtain ⟨x0, x1, x2⟩ := x
      have i0 := fun W => in_any x0 (-1) m W
      have i1 := fun W => in_any x1 (-1) n W
      have i2 := fun W => in_any x2 (-1) n W
      have hno : nodOk m n (x0, x1, x2) = (inB x0 (-1) m && (inB x1 (-1) n && inB x2 (-1) n)) := rfl
      have HNO := Lib.hid hno
      clear hno
      have HF := Lib.hid hF
      clear hF
      cases b0 : inB x0 (-1) m
      · rw [b0] at i0
        have hf : Hid (linksB (l, hd, tl) = false) := Lib.hid (by rw [HL.out, all_no hlt (by rw [HX.out, HNO.out, b0]; rfl)]; rfl)
        clear b0
        go_wp2_with fail
        refine (i0 _).mono ?_; rintro e w2 ⟨rfl, hb2⟩
        obtain ⟨hk2, hf2, hz2⟩ := bcellN (n := w.heap.size + 1) (by (try simp only [World.size_drew, World.size_alloc, World.size_setCell]); omega) hb2; have hz2_0 : w.heap.size < w2.heap.size := (by omega); obtain ⟨hk2wr, hf2wr, hz2wr⟩ := bcellAt (b := wr.heap.size) (by (try simp only [World.size_drew, World.size_alloc, World.size_setCell]); omega) hb2
        go_wp2_with fail
        go_ret
        exact ⟨ret_bool hf.out.symm, by have hF := HF.out; unfold Fr at hF; (repeat (first | (with_reducible exact Below.refl _ _) | ((with_reducible refine below_alloc ?_ ?_ _); · (first | omega | (simp; done) | (simp; omega))) | ((with_reducible refine below_setCell ?_ ?_ _); · (first | omega | (simp; done) | (simp; omega))) | (with_reducible refine Below.drew ?_) | (with_reducible refine below_drewN ?_ _) | ((with_reducible refine below_call (by assumption) ?_ ?_); · (first | omega | (simp; done) | (simp; omega)))))⟩
      · rw [b0] at i0
        cases b1 : inB x1 (-1) n
        · rw [b1] at i1
          have hf : Hid (linksB (l, hd, tl) = false) := Lib.hid (by rw [HL.out, all_no hlt (by rw [HX.out, HNO.out, b0, b1]; rfl)]; rfl)
          clear b0 b1
          go_wp2_with fail
          refine (i0 _).mono ?_; rintro e w2 ⟨rfl, hb2⟩
          obtain ⟨hk2, hf2, hz2⟩ := bcellN (n := w.heap.size + 1) (by (try simp only [World.size_drew, World.size_alloc, World.size_setCell]); omega) hb2; have hz2_0 : w.heap.size < w2.heap.size := (by omega); obtain ⟨hk2wr, hf2wr, hz2wr⟩ := bcellAt (b := wr.heap.size) (by (try simp only [World.size_drew, World.size_alloc, World.size_setCell]); omega) hb2
          go_wp2_with fail
          refine (i1 _).mono ?_; rintro e w3 ⟨rfl, hb3⟩
          obtain ⟨hk3, hf3, hz3⟩ := bcellN (n := w.heap.size + 1) (by (try simp only [World.size_drew, World.size_alloc, World.size_setCell]); omega) hb3; have hz3_0 : w.heap.size < w3.heap.size := (by omega); obtain ⟨hk3wr, hf3wr, hz3wr⟩ := bcellAt (b := wr.heap.size) (by (try simp only [World.size_drew, World.size_alloc, World.size_setCell]); omega) hb3
          go_wp2_with fail
          go_ret
          exact ⟨ret_bool hf.out.symm, by have hF := HF.out; unfold Fr at hF; (repeat (first | (with_reducible exact Below.refl _ _) | ((with_reducible refine below_alloc ?_ ?_ _); · (first | omega | (simp; done) | (simp; omega))) | ((with_reducible refine below_setCell ?_ ?_ _); · (first | omega | (simp; done) | (simp; omega))) | (with_reducible refine Below.drew ?_) | (with_reducible refine below_drewN ?_ _) | ((with_reducible refine below_call (by assumption) ?_ ?_); · (first | omega | (simp; done) | (simp; omega)))))⟩
        · rw [b1] at i1
          cases b2 : inB x2 (-1) n
          · rw [b2] at i2
            have hf : Hid (linksB (l, hd, tl) = false) := Lib.hid (by rw [HL.out, all_no hlt (by rw [HX.out, HNO.out, b0, b1, b2]; rfl)]; rfl)
            clear b0 b1 b2
            go_wp2_with fail
            refine (i0 _).mono ?_; rintro e w2 ⟨rfl, hb2⟩
            obtain ⟨hk2, hf2, hz2⟩ := bcellN (n := w.heap.size + 1) (by (try simp only [World.size_drew, World.size_alloc, World.size_setCell]); omega) hb2; have hz2_0 : w.heap.size < w2.heap.size := (by omega); obtain ⟨hk2wr, hf2wr, hz2wr⟩ := bcellAt (b := wr.heap.size) (by (try simp only [World.size_drew, World.size_alloc, World.size_setCell]); omega) hb2
            go_wp2_with fail
            refine (i1 _).mono ?_; rintro e w3 ⟨rfl, hb3⟩
            obtain ⟨hk3, hf3, hz3⟩ := bcellN (n := w.heap.size + 1) (by (try simp only [World.size_drew, World.size_alloc, World.size_setCell]); omega) hb3; have hz3_0 : w.heap.size < w3.heap.size := (by omega); obtain ⟨hk3wr, hf3wr, hz3wr⟩ := bcellAt (b := wr.heap.size) (by (try simp only [World.size_drew, World.size_alloc, World.size_setCell]); omega) hb3
            go_wp2_with fail
            refine (i2 _).mono ?_; rintro e w4 ⟨rfl, hb4⟩
            obtain ⟨hk4, hf4, hz4⟩ := bcellN (n := w.heap.size + 1) (by (try simp only [World.size_drew, World.size_alloc, World.size_setCell]); omega) hb4; have hz4_0 : w.heap.size < w4.heap.size := (by omega); obtain ⟨hk4wr, hf4wr, hz4wr⟩ := bcellAt (b := wr.heap.size) (by (try simp only [World.size_drew, World.size_alloc, World.size_setCell]); omega) hb4
            go_wp2_with fail
            go_ret
            exact ⟨ret_bool hf.out.symm, by have hF := HF.out; unfold Fr at hF; (repeat (first | (with_reducible exact Below.refl _ _) | ((with_reducible refine below_alloc ?_ ?_ _); · (first | omega | (simp; done) | (simp; omega))) | ((with_reducible refine below_setCell ?_ ?_ _); · (first | omega | (simp; done) | (simp; omega))) | (with_reducible refine Below.drew ?_) | (with_reducible refine below_drewN ?_ _) | ((with_reducible refine below_call (by assumption) ?_ ?_); · (first | omega | (simp; done) | (simp; omega)))))⟩
          · rw [b2] at i2
            have hf : Hid (nodOk m n (x0, x1, x2) = true) := Lib.hid (by rw [HNO.out, b0, b1, b2]; rfl)
            clear b0 b1 b2
            go_wp2_with fail
            refine (i0 _).mono ?_; rintro e w2 ⟨rfl, hb2⟩
            obtain ⟨hk2, hf2, hz2⟩ := bcellN (n := w.heap.size + 1) (by (try simp only [World.size_drew, World.size_alloc, World.size_setCell]); omega) hb2; have hz2_0 : w.heap.size < w2.heap.size := (by omega); obtain ⟨hk2wr, hf2wr, hz2wr⟩ := bcellAt (b := wr.heap.size) (by (try simp only [World.size_drew, World.size_alloc, World.size_setCell]); omega) hb2
            go_wp2_with fail
            refine (i1 _).mono ?_; rintro e w3 ⟨rfl, hb3⟩
            obtain ⟨hk3, hf3, hz3⟩ := bcellN (n := w.heap.size + 1) (by (try simp only [World.size_drew, World.size_alloc, World.size_setCell]); omega) hb3; have hz3_0 : w.heap.size < w3.heap.size := (by omega); obtain ⟨hk3wr, hf3wr, hz3wr⟩ := bcellAt (b := wr.heap.size) (by (try simp only [World.size_drew, World.size_alloc, World.size_setCell]); omega) hb3
            go_wp2_with fail
            refine (i2 _).mono ?_; rintro e w4 ⟨rfl, hb4⟩
            obtain ⟨hk4, hf4, hz4⟩ := bcellN (n := w.heap.size + 1) (by (try simp only [World.size_drew, World.size_alloc, World.size_setCell]); omega) hb4; have hz4_0 : w.heap.size < w4.heap.size := (by omega); obtain ⟨hk4wr, hf4wr, hz4wr⟩ := bcellAt (b := wr.heap.size) (by (try simp only [World.size_drew, World.size_alloc, World.size_setCell]); omega) hb4
            go_wp2_with fail
            go_roundw
            case rel =>
              refine ⟨k + 1, by go_num, by omega, fun j hj hjk => ?_, ?_⟩
              · by_cases e : j = k
                · subst e; rw [HX.out]; exact hf.out
                · exact HK.out j hj (by omega)
              · refine Fr.call HF.out ?_
                (repeat (first | (with_reducible exact Below.refl _ _) | ((with_reducible refine below_alloc ?_ ?_ _); · (first | omega | (simp; done) | (simp; omega))) | ((with_reducible refine below_setCell ?_ ?_ _); · (first | omega | (simp; done) | (simp; omega))) | (with_reducible refine Below.drew ?_) | (with_reducible refine below_drewN ?_ _) | ((with_reducible refine below_call (by assumption) ?_ ?_); · (first | omega | (simp; done) | (simp; omega)))))
            case measure => simp [intOf]; omega
    · obtain rfl : k = l.length := by omega
      have hA : Hid (linksB (l, hd, tl) = (hd.all (fun x => inB x (-1) n) && tl.all (fun x => inB x (-1) n))) := Lib.hid (by rw [HL.out, all_yes (fun j hj => HK.out j hj hj)]; rfl)
      have HF := Lib.hid hF
      clear hF hlt
      go_wp2_with fail
      obtain ⟨wo6, hwo⟩ : ∃ x, x = wr := ⟨_, rfl⟩
      subst hwo
      go_loopw [6] (fun i wr => ∃ k : Nat, i = .int .i64 k ∧ k ≤ hd.length ∧ (∀ j (hj : j < hd.length), j < k → inB hd[j] (-1) n = true) ∧ Fr wt wr) (fun i _ => hd.length - (intOf i).toNat)
      case atStart => exact ⟨0, rfl, by omega, fun j hj h => by omega, HF.out⟩
      case round =>
        clear e0 e1 e2 hzr hs
        obtain ⟨k, rfl, hk, hok, hF⟩ := hrel
        have HK := Lib.hid hok
        have e0 := Fr.at hF HE.out.1
        have e1 := Fr.at hF HE.out.2.1
        have e2 := Fr.at hF HE.out.2.2
        have hzr : w.heap.size < wr.heap.size := World.block_lt_of_cell? _ _ e0
        have hs := Below.size hF
        clear hok
        by_cases hlt : k < hd.length
        · have hlt' : (k : Int) < hd.length := by omega
          obtain ⟨b, off, rfl, d0⟩ := HH.out k hlt
          have c0 := Fr.at (Fr.fin hB hF) d0
          obtain ⟨x, hx⟩ : ∃ x, hd[k] = x := ⟨_, rfl⟩
          rw [hx] at c0
          have HX := Lib.hid hx
          clear d0 hx
          have i0 := fun W => in_any x (-1) n W
          have HF2 := Lib.hid hF
          clear hF
          cases b0 : inB x (-1) n
          · rw [b0] at i0
            have hf : Hid (linksB (l, hd, tl) = false) := Lib.hid (by rw [hA.out, all_no (f := fun x => inB x (-1) n) hlt (by rw [HX.out, b0])]; rfl)
            clear b0
            go_wp2_with fail
            refine (i0 _).mono ?_; rintro e w2 ⟨rfl, hb2⟩
            obtain ⟨hk2, hf2, hz2⟩ := bcellN (n := w.heap.size + 1) (by (try simp only [World.size_drew, World.size_alloc, World.size_setCell]); omega) hb2; have hz2_0 : w.heap.size < w2.heap.size := (by omega)
            go_wp2_with fail
            go_ret
            exact ⟨ret_bool hf.out.symm, by have hF := HF2.out; unfold Fr at hF; (repeat (first | (with_reducible exact Below.refl _ _) | ((with_reducible refine below_alloc ?_ ?_ _); · (first | omega | (simp; done) | (simp; omega))) | ((with_reducible refine below_setCell ?_ ?_ _); · (first | omega | (simp; done) | (simp; omega))) | (with_reducible refine Below.drew ?_) | (with_reducible refine below_drewN ?_ _) | ((with_reducible refine below_call (by assumption) ?_ ?_); · (first | omega | (simp; done) | (simp; omega)))))⟩
          · rw [b0] at i0
            have hf := Lib.hid b0
            clear b0
            go_wp2_with fail
            refine (i0 _).mono ?_; rintro e w2 ⟨rfl, hb2⟩
            obtain ⟨hk2, hf2, hz2⟩ := bcellN (n := w.heap.size + 1) (by (try simp only [World.size_drew, World.size_alloc, World.size_setCell]); omega) hb2; have hz2_0 : w.heap.size < w2.heap.size := (by omega)
            go_wp2_with fail
            go_roundw
            case rel =>
              refine ⟨k + 1, by go_num, by omega, fun j hj hjk => ?_, Fr.call HF2.out hb2⟩
              by_cases e : j = k
              · subst e; rw [HX.out]; exact hf.out
              · exact HK.out j hj (by omega)
            case measure => simp [intOf]; omega
        · obtain rfl : k = hd.length := by omega
          have hA2 : Hid (linksB (l, hd, tl) = tl.all (fun x => inB x (-1) n)) := Lib.hid (by rw [hA.out, all_yes (f := fun x => inB x (-1) n) (fun j hj => HK.out j hj hj)]; rfl)
          have HF := Lib.hid hF
          clear hF hlt
          go_wp2_with fail
          obtain ⟨wo7, hwo⟩ : ∃ x, x = wr := ⟨_, rfl⟩
          subst hwo
          go_loopw [7] (fun i wr => ∃ k : Nat, i = .int .i64 k ∧ k ≤ tl.length ∧ (∀ j (hj : j < tl.length), j < k → inB tl[j] (-1) n = true) ∧ Fr wt wr) (fun i _ => tl.length - (intOf i).toNat)
          case atStart => exact ⟨0, rfl, by omega, fun j hj h => by omega, HF.out⟩
          case round =>
            clear e0 e1 e2 hzr hs
            obtain ⟨k, rfl, hk, hok, hF⟩ := hrel
            have HK := Lib.hid hok
            have e0 := Fr.at hF HE.out.1
            have e1 := Fr.at hF HE.out.2.1
            have e2 := Fr.at hF HE.out.2.2
            have hzr : w.heap.size < wr.heap.size := World.block_lt_of_cell? _ _ e0
            have hs := Below.size hF
            clear hok
            by_cases hlt : k < tl.length
            · have hlt' : (k : Int) < tl.length := by omega
              obtain ⟨b, off, rfl, d0⟩ := HT.out k hlt
              have c0 := Fr.at (Fr.fin hB hF) d0
              obtain ⟨x, hx⟩ : ∃ x, tl[k] = x := ⟨_, rfl⟩
              rw [hx] at c0
              have HX := Lib.hid hx
              clear d0 hx
              have i0 := fun W => in_any x (-1) n W
              have HF2 := Lib.hid hF
              clear hF
              cases b0 : inB x (-1) n
              · rw [b0] at i0
                have hf : Hid (linksB (l, hd, tl) = false) := Lib.hid (by rw [hA2.out, all_no (f := fun x => inB x (-1) n) hlt (by rw [HX.out, b0])])
                clear b0
                go_wp2_with fail
                refine (i0 _).mono ?_; rintro e w2 ⟨rfl, hb2⟩
                obtain ⟨hk2, hf2, hz2⟩ := bcellN (n := w.heap.size + 1) (by (try simp only [World.size_drew, World.size_alloc, World.size_setCell]); omega) hb2; have hz2_0 : w.heap.size < w2.heap.size := (by omega)
                go_wp2_with fail
                go_ret
                exact ⟨ret_bool hf.out.symm, by have hF := HF2.out; unfold Fr at hF; (repeat (first | (with_reducible exact Below.refl _ _) | ((with_reducible refine below_alloc ?_ ?_ _); · (first | omega | (simp; done) | (simp; omega))) | ((with_reducible refine below_setCell ?_ ?_ _); · (first | omega | (simp; done) | (simp; omega))) | (with_reducible refine Below.drew ?_) | (with_reducible refine below_drewN ?_ _) | ((with_reducible refine below_call (by assumption) ?_ ?_); · (first | omega | (simp; done) | (simp; omega)))))⟩
              · rw [b0] at i0
                have hf := Lib.hid b0
                clear b0
                go_wp2_with fail
                refine (i0 _).mono ?_; rintro e w2 ⟨rfl, hb2⟩
                obtain ⟨hk2, hf2, hz2⟩ := bcellN (n := w.heap.size + 1) (by (try simp only [World.size_drew, World.size_alloc, World.size_setCell]); omega) hb2; have hz2_0 : w.heap.size < w2.heap.size := (by omega)
                go_wp2_with fail
                go_roundw
                case rel =>
                  refine ⟨k + 1, by go_num, by omega, fun j hj hjk => ?_, Fr.call HF2.out hb2⟩
                  by_cases e : j = k
                  · subst e; rw [HX.out]; exact hf.out
                  · exact HK.out j hj (by omega)
                case measure => simp [intOf]; omega
            · obtain rfl : k = tl.length := by omega
              have hA3 : Hid (linksB (l, hd, tl) = true) := Lib.hid (by rw [hA2.out, all_yes (f := fun x => inB x (-1) n) (fun j hj => HK.out j hj hj)])
              have HF := Lib.hid hF
              clear hF hlt
              go_wp2_with fail
              go_ret
              exact ⟨ret_bool hA3.out.symm, by have hF := HF.out; unfold Fr at hF; (repeat (first | (with_reducible exact Below.refl _ _) | ((with_reducible refine below_alloc ?_ ?_ _); · (first | omega | (simp; done) | (simp; omega))) | ((with_reducible refine below_setCell ?_ ?_ _); · (first | omega | (simp; done) | (simp; omega))) | (with_reducible refine Below.drew ?_) | (with_reducible refine below_drewN ?_ _) | ((with_reducible refine below_call (by assumption) ?_ ?_); · (first | omega | (simp; done) | (simp; omega)))))⟩
end Go.Proofs.Ytkcenadenmkgnaa
