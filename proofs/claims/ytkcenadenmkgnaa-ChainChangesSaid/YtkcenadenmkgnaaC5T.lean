/- Contracts of layer 4, the program's: Turn. -/
import Derived.Test.YtkcenadenmkgnaaC5H
import Derived.Test.YtkcenadenmkgnaaC5O
namespace Go.Proofs.Ytkcenadenmkgnaa
open Go.RowKit
set_option linter.unusedVariables false
set_option linter.unusedSimpArgs false


set_option maxRecDepth 100000 in
set_option maxHeartbeats 1000000 in
theorem turn_any (vn vh vt : Value) (st : LSt) (i : Int) (w : World) (hv : IsLS w vn vh vt st) (h1 : st.1.length ≤ 1048576) (h2 : st.2.1.length ≤ 1048576) (h3 : st.2.2.length ≤ 1048576) :
    Calls Try.prog 18 #[.agg #[vn, vh, vt], .int .i64 i] w fun e w' => ∃ un uh ut, e = .returned (.agg #[un, uh, ut]) ∧ OutLS w' w.heap.size vn vh vt st un uh ut (turnS st i) ∧ Below w.heap.size w w' := by
  have c1 := Lib.hid (fun W (h : Below w.heap.size w W) => front_any vn vh vt st i W (hv.call h) h1 h2 h3)
  have hmath : ∀ f : Int, frontL st i = f → f ≠ -1 → ∃ (k x : Nat), i = k ∧ f = x ∧ k < st.2.1.length ∧ x < st.1.length ∧ chkL st = 0 ∧ (nodAt st.1 x).1 = k ∧ (-1 ≤ (nodAt st.1 x).2.1 ∧ (nodAt st.1 x).2.1 < st.1.length) ∧ (-1 ≤ (nodAt st.1 x).2.2 ∧ (nodAt st.1 x).2.2 < st.1.length) ∧ (-1 ≤ (outP st x).2.2.getD k (-1) ∧ (outP st x).2.2.getD k (-1) < st.1.length) := by
    intro f hf hne
    cases ha : askB st i
    · rw [front_no ha] at hf; omega
    · obtain ⟨hch, -, hi0, hil⟩ := askB_parts ha
      obtain ⟨k, rfl⟩ : ∃ k : Nat, i = k := ⟨i.toNat, by omega⟩
      rw [Int.toNat_natCast] at hil
      have hr := rep_chk hch
      have hkL : k < (allL st).length := by rw [allL_len]; exact hil
      have hfy := front_yes ha hil
      have hh := rep_hd hr hkL
      have e : st.2.1.getD k (-1) = st.2.1[k] := by simp [List.getD, hil]
      rw [e, ← hfy, hf] at hh
      cases hL : (allL st)[k] with
      | nil => rw [hL] at hh; exact absurd hh hne
      | cons a r =>
        rw [hL] at hh
        replace hh : f = a := hh
        subst hh
        have hb := hr.bd hkL (a := f) (by rw [hL]; simp)
        obtain ⟨x, rfl⟩ : ∃ x : Nat, f = x := ⟨f.toNat, by omega⟩
        obtain ⟨m1, m2, m3, m4⟩ := rep_mem hr hkL (k := x) (by rw [hL]; simp)
        have ho := rep_out hr hkL (k := x) (A := []) (B := r) (by rw [hL]; rfl)
        have ht := rep_tail_rng ho (i := k) (by rw [List.length_set]; exact hkL)
        rw [(outP_len st x).1] at ht
        exact ⟨k, x, rfl, rfl, hil, m1, hch, m2, m3, m4, ht⟩
  have HV := Lib.hid hv
  have cc := Lib.hid (fun W (h : Below w.heap.size w W) a b c => copied_any vn vh vt st W (HV.out.call h) a b c)
  have hcp := fun h => chkL_parts (st := st) h
  obtain ⟨l, hd, tl⟩ := st
  replace h1 : l.length ≤ 1048576 := h1
  replace h2 : hd.length ≤ 1048576 := h2
  replace h3 : tl.length ≤ 1048576 := h3
  obtain ⟨⟨pn, cn, rfl, hn⟩, ⟨ph, ch, rfl, hh⟩, ⟨pt, ct, rfl, -⟩⟩ := hv
  have HN := Lib.hid hn
  clear hn
  have hS : ∀ f, frontL (l, hd, tl) i = f → turnS (l, hd, tl) i = if f = -1 then (l, hd, tl) else putP (outP (l, hd, tl) f.toNat) i.toNat f.toNat := fun f e => by unfold turnS; rw [e]
  obtain ⟨f, hfr⟩ : ∃ f, frontL (l, hd, tl) i = f := ⟨_, rfl⟩
  rw [hfr] at c1
  replace hS := hS f hfr
  replace hmath := hmath f hfr
  clear hfr hh HN
  by_cases hf1 : f = -1
  · subst hf1
    have hf : Hid (turnS (l, hd, tl) i = (l, hd, tl)) := Lib.hid hS
    clear hS hmath hcp
    go_enter Try.func18, Try.ntmps18
    go_wp2_with fail
    refine (c1.out _ (by (repeat (first | (with_reducible exact Below.refl _ _) | ((with_reducible refine below_alloc ?_ ?_ _); · (first | omega | (simp; done) | (simp; omega))) | ((with_reducible refine below_setCell ?_ ?_ _); · (first | omega | (simp; done) | (simp; omega))) | (with_reducible refine Below.drew ?_) | (with_reducible refine below_drewN ?_ _) | ((with_reducible refine below_call (by assumption) ?_ ?_); · (first | omega | (simp; done) | (simp; omega))))))).mono ?_; rintro e w1 ⟨rfl, hb1⟩
    obtain ⟨hk1, hf1, hz1⟩ := bcellN (n := w.heap.size + 2) (by (try simp only [World.size_drew, World.size_alloc, World.size_setCell]); omega) hb1; have hz1_0 : w.heap.size < w1.heap.size := (by omega); have hz1_1 : w.heap.size + 1 < w1.heap.size := (by omega)
    go_wp2_with fail
    refine bodyPost_ret (v := .agg #[.slice pn l.length cn, .slice ph hd.length ch, .slice pt tl.length ct]) (by simp [results, Try.results18, go_sem, hk1, hz1_0, hz1_1]) rfl ⟨_, _, _, rfl, .inl ⟨rfl, rfl, rfl, hf.out⟩, ?_⟩
    (repeat (first | (with_reducible exact Below.refl _ _) | ((with_reducible refine below_alloc ?_ ?_ _); · (first | omega | (simp; done) | (simp; omega))) | ((with_reducible refine below_setCell ?_ ?_ _); · (first | omega | (simp; done) | (simp; omega))) | (with_reducible refine Below.drew ?_) | (with_reducible refine below_drewN ?_ _) | ((with_reducible refine below_call (by assumption) ?_ ?_); · (first | omega | (simp; done) | (simp; omega)))))
  · obtain ⟨k, x, rfl, rfl, hkl, hxl, hch, m2, m3, m4, m5⟩ := hmath hf1
    replace hkl : k < hd.length := hkl
    replace hxl : x < l.length := hxl
    obtain ⟨hln, hkn, htl, -, -, -⟩ := hcp hch
    have hf : Hid (turnS (l, hd, tl) k = putP (outP (l, hd, tl) x) k x) := Lib.hid (by rw [hS, if_neg hf1, Int.toNat_natCast, Int.toNat_natCast])
    have CT : Hid (∀ W gn gh gt an ah at' (hW : OwnLS W (w.heap.size + 2) l.length hd.length gn gh gt an ah at' (l, hd, tl)) (hBW : w.heap.size + 2 ≤ W.heap.size), _) := Lib.hid (fun W gn gh gt an ah at' hW hBW => takeout_any (w.heap.size + 2) l.length hd.length gn gh gt an ah at' (l, hd, tl) k x W hW hBW hkl hxl m2 m3 m4 hln.2 hkn.2)
    have CP : Hid (∀ W gn gh gt an ah at' (hW : OwnLS W (w.heap.size + 2) l.length hd.length gn gh gt an ah at' (outP (l, hd, tl) x)) (hBW : w.heap.size + 2 ≤ W.heap.size), _) := Lib.hid (fun W gn gh gt an ah at' hW hBW => putbehind_any (w.heap.size + 2) l.length hd.length gn gh gt an ah at' (outP (l, hd, tl) x) k x W hW hBW hkl hxl m5 hln.2 hkn.2)
    have HT3 := Lib.hid htl
    have ex : ((x : Int) == (-1 : Int)) = false := by simp
    clear hS hcp htl hch m2 m3 m4 m5 hf1 hmath
    go_enter Try.func18, Try.ntmps18
    go_wp2_with fail
    refine (c1.out _ (by (repeat (first | (with_reducible exact Below.refl _ _) | ((with_reducible refine below_alloc ?_ ?_ _); · (first | omega | (simp; done) | (simp; omega))) | ((with_reducible refine below_setCell ?_ ?_ _); · (first | omega | (simp; done) | (simp; omega))) | (with_reducible refine Below.drew ?_) | (with_reducible refine below_drewN ?_ _) | ((with_reducible refine below_call (by assumption) ?_ ?_); · (first | omega | (simp; done) | (simp; omega))))))).mono ?_; rintro e w1 ⟨rfl, hb1⟩
    obtain ⟨hk1, hf1, hz1⟩ := bcellN (n := w.heap.size + 2) (by (try simp only [World.size_drew, World.size_alloc, World.size_setCell]); omega) hb1; have hz1_0 : w.heap.size < w1.heap.size := (by omega); have hz1_1 : w.heap.size + 1 < w1.heap.size := (by omega)
    go_wp2_with fail
    refine (cc.out _ (by (repeat (first | (with_reducible exact Below.refl _ _) | ((with_reducible refine below_alloc ?_ ?_ _); · (first | omega | (simp; done) | (simp; omega))) | ((with_reducible refine below_setCell ?_ ?_ _); · (first | omega | (simp; done) | (simp; omega))) | (with_reducible refine Below.drew ?_) | (with_reducible refine below_drewN ?_ _) | ((with_reducible refine below_call (by assumption) ?_ ?_); · (first | omega | (simp; done) | (simp; omega)))))) hln hkn HT3.out).mono ?_; rintro e w2 ⟨gn, gh, gt, an, ah, at', rfl, hO, hb2⟩
    obtain ⟨hk2, hf2, hz2⟩ := bcellN (n := w.heap.size + 2) (by (try simp only [World.size_drew, World.size_alloc, World.size_setCell]); omega) hb2; have hz2_0 : w.heap.size < w2.heap.size := (by omega); have hz2_1 : w.heap.size + 1 < w2.heap.size := (by omega)
    (try dsimp only at hO)
    obtain ⟨⟨b1, _⟩, ⟨b2, _⟩, ⟨b3, _⟩⟩ := hO.lt
    (try simp only [World.size_drew, World.size_alloc, World.size_setCell] at b1 b2 b3)
    have BB : w.heap.size + 2 ≤ gn ∧ w.heap.size + 2 ≤ gh ∧ w.heap.size + 2 ≤ gt := by omega
    have HO := Lib.hid (hO.mono (B' := w.heap.size + 2) (by (try simp only [World.size_drew, World.size_alloc, World.size_setCell]); omega))
    clear hO b1 b2 b3
    have n1 : w.heap.size ≠ gn := by omega
    have n2 : w.heap.size ≠ gh := by omega
    have n3 : w.heap.size ≠ gt := by omega
    have m1 : w.heap.size + 1 ≠ gn := by omega
    have m2 : w.heap.size + 1 ≠ gh := by omega
    have m3 : w.heap.size + 1 ≠ gt := by omega
    go_wp2_with fail
    refine gen_calls (F := fun wt => (wt.cell? ⟨w.heap.size, 0, none⟩ = some (.slice (some ⟨gn, 0, none⟩) l.length an) ∧ wt.cell? ⟨w.heap.size, 1, none⟩ = some (.slice (some ⟨gh, 0, none⟩) hd.length ah) ∧ wt.cell? ⟨w.heap.size, 2, none⟩ = some (.slice (some ⟨gt, 0, none⟩) hd.length at')) ∧ ((wt.cell? ⟨w.heap.size + 1, 0, none⟩ = some (.slice none 0 0) ∧ wt.cell? ⟨w.heap.size + 1, 1, none⟩ = some (.slice none 0 0) ∧ wt.cell? ⟨w.heap.size + 1, 2, none⟩ = some (.slice none 0 0)) ∧ (wt.frozen? ⟨w.heap.size + 1, 0, none⟩ = false ∧ wt.frozen? ⟨w.heap.size + 1, 1, none⟩ = false ∧ wt.frozen? ⟨w.heap.size + 1, 2, none⟩ = false)) ∧ OwnLS wt (w.heap.size + 2) l.length hd.length gn gh gt an ah at' (l, hd, tl) ∧ Below w.heap.size w wt ∧ w.heap.size + 2 ≤ wt.heap.size) ⟨⟨by simp [go_sem, hk1, hz1_0, hz1_1, hk2, hz2_0, hz2_1], by simp [go_sem, hk1, hz1_0, hz1_1, hk2, hz2_0, hz2_1], by simp [go_sem, hk1, hz1_0, hz1_1, hk2, hz2_0, hz2_1]⟩, ⟨⟨by simp [go_sem, hk1, hz1_0, hz1_1, hk2, hz2_0, hz2_1], by simp [go_sem, hk1, hz1_0, hz1_1, hk2, hz2_0, hz2_1], by simp [go_sem, hk1, hz1_0, hz1_1, hk2, hz2_0, hz2_1]⟩, ⟨by simp [go_sem, hf1, hz1_0, hz1_1, hf2, hz2_0, hz2_1], by simp [go_sem, hf1, hz1_0, hz1_1, hf2, hz2_0, hz2_1], by simp [go_sem, hf1, hz1_0, hz1_1, hf2, hz2_0, hz2_1]⟩⟩, ((HO.out.keep _ (by omega)).keep _ (by omega)).keep _ (by omega), by (repeat (first | (with_reducible exact Below.refl _ _) | ((with_reducible refine below_alloc ?_ ?_ _); · (first | omega | (simp; done) | (simp; omega))) | ((with_reducible refine below_setCell ?_ ?_ _); · (first | omega | (simp; done) | (simp; omega))) | (with_reducible refine Below.drew ?_) | (with_reducible refine below_drewN ?_ _) | ((with_reducible refine below_call (by assumption) ?_ ?_); · (first | omega | (simp; done) | (simp; omega))))), by (try simp only [World.size_drew, World.size_alloc, World.size_setCell]); omega⟩ (fun W hF => ?_)
    obtain ⟨⟨e0, e1, e2⟩, ⟨⟨r0, r1, r2⟩, ⟨z0, z1, z2⟩⟩, hO, hB, hz⟩ := hF
    clear hk1 hf1 hz1 hz1_0 hz1_1 hb1 hk2 hf2 hz2 hz2_0 hz2_1 hb2 HO
    refine (CT.out W gn gh gt an ah at' hO (by omega)).mono ?_; rintro e w20 ⟨rfl, hO20, hu20, hb20⟩
    have hs20 := hb20.size
    replace e0 := hu20.cell e0 n1 n2 n3
    replace e1 := hu20.cell e1 n1 n2 n3
    replace e2 := hu20.cell e2 n1 n2 n3
    replace r0 := hu20.cell r0 m1 m2 m3
    replace r1 := hu20.cell r1 m1 m2 m3
    replace r2 := hu20.cell r2 m1 m2 m3
    replace z0 := (hu20.frozen (o := 0) (by omega) m1 m2 m3).trans z0
    replace z1 := (hu20.frozen (o := 1) (by omega) m1 m2 m3).trans z1
    replace z2 := (hu20.frozen (o := 2) (by omega) m1 m2 m3).trans z2
    replace hB := hB.trans (hb20.mono (by omega))
    have HH20 := Lib.hid hO20
    clear hu20 hb20 
    clear hO
    clear hO20
    go_wp2_with fail
    refine (CP.out w20 gn gh gt an ah at' HH20.out (by omega)).mono ?_; rintro e w21 ⟨rfl, hO21, hu21, hb21⟩
    have hs21 := hb21.size
    replace e0 := hu21.cell e0 n1 n2 n3
    replace e1 := hu21.cell e1 n1 n2 n3
    replace e2 := hu21.cell e2 n1 n2 n3
    replace r0 := hu21.cell r0 m1 m2 m3
    replace r1 := hu21.cell r1 m1 m2 m3
    replace r2 := hu21.cell r2 m1 m2 m3
    replace z0 := (hu21.frozen (o := 0) (by omega) m1 m2 m3).trans z0
    replace z1 := (hu21.frozen (o := 1) (by omega) m1 m2 m3).trans z1
    replace z2 := (hu21.frozen (o := 2) (by omega) m1 m2 m3).trans z2
    replace hB := hB.trans (hb21.mono (by omega))
    have HH21 := Lib.hid hO21
    clear hu21 hb21 
    clear hO21
    go_wp2_with fail
    refine bodyPost_ret (v := .agg #[.slice (some ⟨gn, 0, none⟩) l.length an, .slice (some ⟨gh, 0, none⟩) hd.length ah, .slice (some ⟨gt, 0, none⟩) hd.length at']) (by simp [results, Try.results18, go_sem, r0, r1, r2, z0, z1, z2]) rfl ⟨_, _, _, rfl, .inr ⟨l.length, hd.length, gn, gh, gt, an, ah, at', rfl, rfl, rfl, ?_⟩, ?_⟩
    · rw [hf.out]; exact (((HH21.out.keep _ (by omega)).keep _ (by omega)).keep _ (by omega)).mono (by omega)
    · (repeat (first | (with_reducible exact Below.refl _ _) | ((with_reducible refine below_alloc ?_ ?_ _); · (first | omega | (simp; done) | (simp; omega))) | ((with_reducible refine below_setCell ?_ ?_ _); · (first | omega | (simp; done) | (simp; omega))) | (with_reducible refine Below.drew ?_) | (with_reducible refine below_drewN ?_ _) | ((with_reducible refine below_call (by assumption) ?_ ?_); · (first | omega | (simp; done) | (simp; omega)))))
end Go.Proofs.Ytkcenadenmkgnaa
