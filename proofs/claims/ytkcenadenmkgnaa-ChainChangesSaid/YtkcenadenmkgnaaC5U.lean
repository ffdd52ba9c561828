/- Contracts of layer 4, the program's: Unlink. -/
import Derived.Test.YtkcenadenmkgnaaC5H
import Derived.Test.YtkcenadenmkgnaaC5E
namespace Go.Proofs.Ytkcenadenmkgnaa
open Go.RowKit
set_option linter.unusedVariables false
set_option linter.unusedSimpArgs false


set_option maxRecDepth 100000 in
set_option maxHeartbeats 1000000 in
theorem unlink_any (vn vh vt : Value) (st : LSt) (a : Int) (w : World) (hv : IsLS w vn vh vt st) (h1 : st.1.length ≤ 1048576) (h2 : st.2.1.length ≤ 1048576) (h3 : st.2.2.length ≤ 1048576) :
    Calls Try.prog 12 #[.agg #[vn, vh, vt], .int .i64 a] w fun e w' => ∃ un uh ut, e = .returned (.tuple #[.agg #[un, uh, ut], .int .i64 (unlE st a)]) ∧ OutLS w' w.heap.size vn vh vt st un uh ut (unlS st a) ∧ Below w.heap.size w w' := by
  have HV := Lib.hid hv
  have ck := Lib.hid (fun W (h : Below w.heap.size w W) => chk_any vn vh vt st W (HV.out.call h) h1 h2 h3)
  have cc := Lib.hid (fun W (h : Below w.heap.size w W) a b c => copied_any vn vh vt st W (HV.out.call h) a b c)
  have hcp := fun h => chkL_parts (st := st) h
  have htr := fun h i hi => tails_rng (st := st) h (i := i) hi
  obtain ⟨l, hd, tl⟩ := st
  replace h1 : l.length ≤ 1048576 := h1
  replace h2 : hd.length ≤ 1048576 := h2
  replace h3 : tl.length ≤ 1048576 := h3
  obtain ⟨⟨pn, cn, rfl, hn⟩, ⟨ph, ch, rfl, hh⟩, ⟨pt, ct, rfl, -⟩⟩ := hv
  have HN := Lib.hid hn
  clear hn
  have c2 := fun W => hasN_any pn l.length cn a W
  have hE : unlE (l, hd, tl) a = if chkL (l, hd, tl) ≠ 0 then chkL (l, hd, tl) else if inB a 0 ((l.length : Int) - 1) = false then 8 else if (nodAt l a.toNat).1 = -1 then 6 else 0 := rfl
  have hS : unlS (l, hd, tl) a = if unlE (l, hd, tl) a = 0 then outP (l, hd, tl) a.toNat else (l, hd, tl) := rfl
  by_cases hc : chkL (l, hd, tl) = 0
  · rw [hc] at ck
    cases b2 : inB a 0 ((l.length : Int) - 1)
    · rw [b2] at c2
      have hf : Hid (unlE (l, hd, tl) a = 8 ∧ unlS (l, hd, tl) a = (l, hd, tl)) := by
        have e : unlE (l, hd, tl) a = 8 := by rw [hE, if_neg (by simp [hc]), if_pos b2]
        exact Lib.hid ⟨e, by rw [hS, e]; rfl⟩
      clear hE hS hc b2 hcp htr hh
      go_enter Try.func12, Try.ntmps12
      go_wp2_with fail
      refine (ck.out _ (by (repeat (first | (with_reducible exact Below.refl _ _) | ((with_reducible refine below_alloc ?_ ?_ _); · (first | omega | (simp; done) | (simp; omega))) | ((with_reducible refine below_setCell ?_ ?_ _); · (first | omega | (simp; done) | (simp; omega))) | (with_reducible refine Below.drew ?_) | (with_reducible refine below_drewN ?_ _) | ((with_reducible refine below_call (by assumption) ?_ ?_); · (first | omega | (simp; done) | (simp; omega))))))).mono ?_; rintro e w1 ⟨rfl, hb1⟩
      obtain ⟨hk1, hf1, hz1⟩ := bcellN (n := w.heap.size + 2) (by (try simp only [World.size_drew, World.size_alloc, World.size_setCell]); omega) hb1; have hz1_0 : w.heap.size < w1.heap.size := (by omega); have hz1_1 : w.heap.size + 1 < w1.heap.size := (by omega)
      go_wp2_with fail
      refine (c2 _).mono ?_; rintro e w2 ⟨rfl, hb2⟩
      obtain ⟨hk2, hf2, hz2⟩ := bcellN (n := w.heap.size + 2) (by (try simp only [World.size_drew, World.size_alloc, World.size_setCell]); omega) hb2; have hz2_0 : w.heap.size < w2.heap.size := (by omega); have hz2_1 : w.heap.size + 1 < w2.heap.size := (by omega)
      go_wp2_with fail
      refine bodyPost_ret (v := .tuple #[.agg #[.slice pn l.length cn, .slice ph hd.length ch, .slice pt tl.length ct], .int .i64 8]) (by simp [results, Try.results12, go_sem, hk1, hz1_0, hz1_1, hk2, hz2_0, hz2_1]) rfl ⟨_, _, _, by rw [hf.out.1], .inl ⟨rfl, rfl, rfl, hf.out.2⟩, ?_⟩
      (repeat (first | (with_reducible exact Below.refl _ _) | ((with_reducible refine below_alloc ?_ ?_ _); · (first | omega | (simp; done) | (simp; omega))) | ((with_reducible refine below_setCell ?_ ?_ _); · (first | omega | (simp; done) | (simp; omega))) | (with_reducible refine Below.drew ?_) | (with_reducible refine below_drewN ?_ _) | ((with_reducible refine below_call (by assumption) ?_ ?_); · (first | omega | (simp; done) | (simp; omega)))))
    · rw [b2] at c2
      have b2' := b2
      rw [inB_iff] at b2'
      obtain ⟨x, rfl⟩ : ∃ x : Nat, a = x := ⟨a.toNat, by omega⟩
      have hxl : x < l.length := by omega
      have hxl' : (x : Int) < l.length := by omega
      have hx0 : (0 : Int) ≤ x := by omega
      obtain ⟨bn, on, rfl, d0, d1, d2⟩ := HN.out x hxl
      have hna := nodAt_lt l x hxl
      obtain ⟨y, hy⟩ : ∃ y, l[x].1 = y := ⟨_, rfl⟩
      rw [hy] at d0
      have hny : (nodAt l x).1 = y := by rw [hna]; exact hy
      have HD := Lib.hid d0
      obtain ⟨hln, hkn, htl, hR, -, -⟩ := hcp hc
      have hlk := links_nodAt hR hxl
      replace hlk : (-1 ≤ (nodAt l x).1 ∧ (nodAt l x).1 < hd.length) ∧ (-1 ≤ (nodAt l x).2.1 ∧ (nodAt l x).2.1 < l.length) ∧ (-1 ≤ (nodAt l x).2.2 ∧ (nodAt l x).2.2 < l.length) := hlk
      rw [Int.toNat_natCast, hny] at hE
      rw [Int.toNat_natCast] at hS
      rw [hny] at hlk
      have HT3 := Lib.hid htl
      have HNY := Lib.hid hny
      clear d0 d1 d2 hna hy htr hcp hR hny htl
      by_cases hy1 : y = -1
      · subst hy1
        have hf : Hid (unlE (l, hd, tl) x = 6 ∧ unlS (l, hd, tl) x = (l, hd, tl)) := by
          have e : unlE (l, hd, tl) x = 6 := by rw [hE, if_neg (by simp [hc]), if_neg (by simp [b2]), if_pos rfl]
          exact Lib.hid ⟨e, by rw [hS, e]; rfl⟩
        clear hE hS hc b2 hh b2' hlk
        go_enter Try.func12, Try.ntmps12
        go_wp2_with fail
        refine (ck.out _ (by (repeat (first | (with_reducible exact Below.refl _ _) | ((with_reducible refine below_alloc ?_ ?_ _); · (first | omega | (simp; done) | (simp; omega))) | ((with_reducible refine below_setCell ?_ ?_ _); · (first | omega | (simp; done) | (simp; omega))) | (with_reducible refine Below.drew ?_) | (with_reducible refine below_drewN ?_ _) | ((with_reducible refine below_call (by assumption) ?_ ?_); · (first | omega | (simp; done) | (simp; omega))))))).mono ?_; rintro e w1 ⟨rfl, hb1⟩
        obtain ⟨hk1, hf1, hz1⟩ := bcellN (n := w.heap.size + 2) (by (try simp only [World.size_drew, World.size_alloc, World.size_setCell]); omega) hb1; have hz1_0 : w.heap.size < w1.heap.size := (by omega); have hz1_1 : w.heap.size + 1 < w1.heap.size := (by omega)
        go_wp2_with fail
        refine (c2 _).mono ?_; rintro e w2 ⟨rfl, hb2⟩
        obtain ⟨hk2, hf2, hz2⟩ := bcellN (n := w.heap.size + 2) (by (try simp only [World.size_drew, World.size_alloc, World.size_setCell]); omega) hb2; have hz2_0 : w.heap.size < w2.heap.size := (by omega); have hz2_1 : w.heap.size + 1 < w2.heap.size := (by omega)
        have hB3 : Below w.heap.size w w2 := by (repeat (first | (with_reducible exact Below.refl _ _) | ((with_reducible refine below_alloc ?_ ?_ _); · (first | omega | (simp; done) | (simp; omega))) | ((with_reducible refine below_setCell ?_ ?_ _); · (first | omega | (simp; done) | (simp; omega))) | (with_reducible refine Below.drew ?_) | (with_reducible refine below_drewN ?_ _) | ((with_reducible refine below_call (by assumption) ?_ ?_); · (first | omega | (simp; done) | (simp; omega)))))
        have c0 := (hB3.cell (p := ⟨bn, on + x * 3, none⟩) (World.block_lt_of_cell? _ _ HD.out)).trans HD.out
        go_wp2_with fail
        refine bodyPost_ret (v := .tuple #[.agg #[.slice (some ⟨bn, on, none⟩) l.length cn, .slice ph hd.length ch, .slice pt tl.length ct], .int .i64 6]) (by simp [results, Try.results12, go_sem, hk1, hz1_0, hz1_1, hk2, hz2_0, hz2_1]) rfl ⟨_, _, _, by rw [hf.out.1], .inl ⟨rfl, rfl, rfl, hf.out.2⟩, ?_⟩
        (repeat (first | (with_reducible exact Below.refl _ _) | ((with_reducible refine below_alloc ?_ ?_ _); · (first | omega | (simp; done) | (simp; omega))) | ((with_reducible refine below_setCell ?_ ?_ _); · (first | omega | (simp; done) | (simp; omega))) | (with_reducible refine Below.drew ?_) | (with_reducible refine below_drewN ?_ _) | ((with_reducible refine below_call (by assumption) ?_ ?_); · (first | omega | (simp; done) | (simp; omega)))))
      · have hy2 : (y == (-1 : Int)) = false := by simp [hy1]
        obtain ⟨k, hk⟩ : ∃ k : Nat, y = k := ⟨y.toNat, by omega⟩
        have hkl : k < hd.length := by omega
        have hf : Hid (unlE (l, hd, tl) x = 0 ∧ unlS (l, hd, tl) x = outP (l, hd, tl) x) := by
          have e : unlE (l, hd, tl) x = 0 := by rw [hE, if_neg (by simp [hc]), if_neg (by simp [b2]), if_neg hy1]
          exact Lib.hid ⟨e, by rw [hS, if_pos e]⟩
        have CP : Hid (∀ W gn gh gt an ah at' (hW : OwnLS W (w.heap.size + 2) l.length hd.length gn gh gt an ah at' (l, hd, tl)) (hBW : w.heap.size + 2 ≤ W.heap.size), _) := Lib.hid (fun W gn gh gt an ah at' hW hBW => takeout_any (w.heap.size + 2) l.length hd.length gn gh gt an ah at' (l, hd, tl) k x W hW hBW hkl hxl (by rw [← hk]; exact HNY.out) hlk.2.1 hlk.2.2 hln.2 hkn.2)
        clear hE hS hc b2 hh b2' hlk hy1 hk
        go_enter Try.func12, Try.ntmps12
        go_wp2_with fail
        refine (ck.out _ (by (repeat (first | (with_reducible exact Below.refl _ _) | ((with_reducible refine below_alloc ?_ ?_ _); · (first | omega | (simp; done) | (simp; omega))) | ((with_reducible refine below_setCell ?_ ?_ _); · (first | omega | (simp; done) | (simp; omega))) | (with_reducible refine Below.drew ?_) | (with_reducible refine below_drewN ?_ _) | ((with_reducible refine below_call (by assumption) ?_ ?_); · (first | omega | (simp; done) | (simp; omega))))))).mono ?_; rintro e w1 ⟨rfl, hb1⟩
        obtain ⟨hk1, hf1, hz1⟩ := bcellN (n := w.heap.size + 2) (by (try simp only [World.size_drew, World.size_alloc, World.size_setCell]); omega) hb1; have hz1_0 : w.heap.size < w1.heap.size := (by omega); have hz1_1 : w.heap.size + 1 < w1.heap.size := (by omega)
        go_wp2_with fail
        refine (c2 _).mono ?_; rintro e w2 ⟨rfl, hb2⟩
        obtain ⟨hk2, hf2, hz2⟩ := bcellN (n := w.heap.size + 2) (by (try simp only [World.size_drew, World.size_alloc, World.size_setCell]); omega) hb2; have hz2_0 : w.heap.size < w2.heap.size := (by omega); have hz2_1 : w.heap.size + 1 < w2.heap.size := (by omega)
        have hB3 : Below w.heap.size w w2 := by (repeat (first | (with_reducible exact Below.refl _ _) | ((with_reducible refine below_alloc ?_ ?_ _); · (first | omega | (simp; done) | (simp; omega))) | ((with_reducible refine below_setCell ?_ ?_ _); · (first | omega | (simp; done) | (simp; omega))) | (with_reducible refine Below.drew ?_) | (with_reducible refine below_drewN ?_ _) | ((with_reducible refine below_call (by assumption) ?_ ?_); · (first | omega | (simp; done) | (simp; omega)))))
        have c0 := (hB3.cell (p := ⟨bn, on + x * 3, none⟩) (World.block_lt_of_cell? _ _ HD.out)).trans HD.out
        go_wp2_with fail
        refine (cc.out _ (by (repeat (first | (with_reducible exact Below.refl _ _) | ((with_reducible refine below_alloc ?_ ?_ _); · (first | omega | (simp; done) | (simp; omega))) | ((with_reducible refine below_setCell ?_ ?_ _); · (first | omega | (simp; done) | (simp; omega))) | (with_reducible refine Below.drew ?_) | (with_reducible refine below_drewN ?_ _) | ((with_reducible refine below_call (by assumption) ?_ ?_); · (first | omega | (simp; done) | (simp; omega)))))) hln hkn HT3.out).mono ?_; rintro e w3 ⟨gn, gh, gt, an, ah, at', rfl, hO, hb3⟩
        obtain ⟨hk3, hf3, hz3⟩ := bcellN (n := w.heap.size + 2) (by (try simp only [World.size_drew, World.size_alloc, World.size_setCell]); omega) hb3; have hz3_0 : w.heap.size < w3.heap.size := (by omega); have hz3_1 : w.heap.size + 1 < w3.heap.size := (by omega)
        (try dsimp only at hO)
        obtain ⟨⟨b1, _⟩, ⟨b2, _⟩, ⟨b3, _⟩⟩ := hO.lt
        (try simp only [World.size_drew, World.size_alloc, World.size_setCell] at b1 b2 b3)
        have BB : w.heap.size + 2 ≤ gn ∧ w.heap.size + 2 ≤ gh ∧ w.heap.size + 2 ≤ gt := by omega
        have HO := Lib.hid (hO.mono (B' := w.heap.size + 2) (by (try simp only [World.size_drew, World.size_alloc, World.size_setCell]); omega))
        clear hO b1 b2 b3
        have n1 : w.heap.size ≠ gn := by omega
        have n2 : w.heap.size ≠ gh := by omega
        have n3 : w.heap.size ≠ gt := by omega
        have m1 : w.heap.size + 1 ≠ gn := by omega
        have m2 : w.heap.size + 1 ≠ gh := by omega
        have m3 : w.heap.size + 1 ≠ gt := by omega
        go_wp2_with fail
        refine gen_calls (F := fun wt => (wt.cell? ⟨w.heap.size, 0, none⟩ = some (.slice (some ⟨gn, 0, none⟩) l.length an) ∧ wt.cell? ⟨w.heap.size, 1, none⟩ = some (.slice (some ⟨gh, 0, none⟩) hd.length ah) ∧ wt.cell? ⟨w.heap.size, 2, none⟩ = some (.slice (some ⟨gt, 0, none⟩) hd.length at')) ∧ ((wt.cell? ⟨w.heap.size + 1, 0, none⟩ = some (.slice none 0 0) ∧ wt.cell? ⟨w.heap.size + 1, 1, none⟩ = some (.slice none 0 0) ∧ wt.cell? ⟨w.heap.size + 1, 2, none⟩ = some (.slice none 0 0)) ∧ (wt.frozen? ⟨w.heap.size + 1, 0, none⟩ = false ∧ wt.frozen? ⟨w.heap.size + 1, 1, none⟩ = false ∧ wt.frozen? ⟨w.heap.size + 1, 2, none⟩ = false)) ∧ OwnLS wt (w.heap.size + 2) l.length hd.length gn gh gt an ah at' (l, hd, tl) ∧ Below w.heap.size w wt ∧ w.heap.size + 2 ≤ wt.heap.size) ⟨⟨by simp [go_sem, hk1, hz1_0, hz1_1, hk2, hz2_0, hz2_1, hk3, hz3_0, hz3_1], by simp [go_sem, hk1, hz1_0, hz1_1, hk2, hz2_0, hz2_1, hk3, hz3_0, hz3_1], by simp [go_sem, hk1, hz1_0, hz1_1, hk2, hz2_0, hz2_1, hk3, hz3_0, hz3_1]⟩, ⟨⟨by simp [go_sem, hk1, hz1_0, hz1_1, hk2, hz2_0, hz2_1, hk3, hz3_0, hz3_1], by simp [go_sem, hk1, hz1_0, hz1_1, hk2, hz2_0, hz2_1, hk3, hz3_0, hz3_1], by simp [go_sem, hk1, hz1_0, hz1_1, hk2, hz2_0, hz2_1, hk3, hz3_0, hz3_1]⟩, ⟨by simp [go_sem, hf1, hz1_0, hz1_1, hf2, hz2_0, hz2_1, hf3, hz3_0, hz3_1], by simp [go_sem, hf1, hz1_0, hz1_1, hf2, hz2_0, hz2_1, hf3, hz3_0, hz3_1], by simp [go_sem, hf1, hz1_0, hz1_1, hf2, hz2_0, hz2_1, hf3, hz3_0, hz3_1]⟩⟩, ((HO.out.keep _ (by omega)).keep _ (by omega)).keep _ (by omega), by (repeat (first | (with_reducible exact Below.refl _ _) | ((with_reducible refine below_alloc ?_ ?_ _); · (first | omega | (simp; done) | (simp; omega))) | ((with_reducible refine below_setCell ?_ ?_ _); · (first | omega | (simp; done) | (simp; omega))) | (with_reducible refine Below.drew ?_) | (with_reducible refine below_drewN ?_ _) | ((with_reducible refine below_call (by assumption) ?_ ?_); · (first | omega | (simp; done) | (simp; omega))))), by (try simp only [World.size_drew, World.size_alloc, World.size_setCell]); omega⟩ (fun W hF => ?_)
        obtain ⟨⟨e0, e1, e2⟩, ⟨⟨r0, r1, r2⟩, ⟨z0, z1, z2⟩⟩, hO, hB, hz⟩ := hF
        clear hk1 hf1 hz1 hz1_0 hz1_1 hb1 hk2 hf2 hz2 hz2_0 hz2_1 hb2 hk3 hf3 hz3 hz3_0 hz3_1 hb3 HO
        refine (CP.out W gn gh gt an ah at' hO (by omega)).mono ?_; rintro e w20 ⟨rfl, hO20, hu20, hb20⟩
        have hs20 := hb20.size
        replace e0 := hu20.cell e0 n1 n2 n3
        replace e1 := hu20.cell e1 n1 n2 n3
        replace e2 := hu20.cell e2 n1 n2 n3
        replace r0 := hu20.cell r0 m1 m2 m3
        replace r1 := hu20.cell r1 m1 m2 m3
        replace r2 := hu20.cell r2 m1 m2 m3
        replace z0 := (hu20.frozen (o := 0) (by omega) m1 m2 m3).trans z0
        replace z1 := (hu20.frozen (o := 1) (by omega) m1 m2 m3).trans z1
        replace z2 := (hu20.frozen (o := 2) (by omega) m1 m2 m3).trans z2
        replace hB := hB.trans (hb20.mono (by omega))
        have HH20 := Lib.hid hO20
        clear hu20 hb20 
        clear hO
        clear hO20
        go_wp2_with fail
        refine bodyPost_ret (v := .tuple #[.agg #[.slice (some ⟨gn, 0, none⟩) l.length an, .slice (some ⟨gh, 0, none⟩) hd.length ah, .slice (some ⟨gt, 0, none⟩) hd.length at'], .int .i64 0]) (by simp [results, Try.results12, go_sem, r0, r1, r2, z0, z1, z2]) rfl ⟨_, _, _, by rw [hf.out.1], .inr ⟨l.length, hd.length, gn, gh, gt, an, ah, at', rfl, rfl, rfl, ?_⟩, ?_⟩
        · rw [hf.out.2]; exact (((HH20.out.keep _ (by omega)).keep _ (by omega)).keep _ (by omega)).mono (by omega)
        · (repeat (first | (with_reducible exact Below.refl _ _) | ((with_reducible refine below_alloc ?_ ?_ _); · (first | omega | (simp; done) | (simp; omega))) | ((with_reducible refine below_setCell ?_ ?_ _); · (first | omega | (simp; done) | (simp; omega))) | (with_reducible refine Below.drew ?_) | (with_reducible refine below_drewN ?_ _) | ((with_reducible refine below_call (by assumption) ?_ ?_); · (first | omega | (simp; done) | (simp; omega)))))
  · have hf : Hid (unlE (l, hd, tl) a = chkL (l, hd, tl) ∧ unlS (l, hd, tl) a = (l, hd, tl)) := by
      have e : unlE (l, hd, tl) a = chkL (l, hd, tl) := by rw [hE, if_pos hc]
      exact Lib.hid ⟨e, by rw [hS, e, if_neg hc]⟩
    have hc1 : (chkL (l, hd, tl) != 0) = true := by simpa using hc
    clear hE hS hc hcp htr hh
    go_enter Try.func12, Try.ntmps12
    go_wp2_with fail
    refine (ck.out _ (by (repeat (first | (with_reducible exact Below.refl _ _) | ((with_reducible refine below_alloc ?_ ?_ _); · (first | omega | (simp; done) | (simp; omega))) | ((with_reducible refine below_setCell ?_ ?_ _); · (first | omega | (simp; done) | (simp; omega))) | (with_reducible refine Below.drew ?_) | (with_reducible refine below_drewN ?_ _) | ((with_reducible refine below_call (by assumption) ?_ ?_); · (first | omega | (simp; done) | (simp; omega))))))).mono ?_; rintro e w1 ⟨rfl, hb1⟩
    obtain ⟨hk1, hf1, hz1⟩ := bcellN (n := w.heap.size + 2) (by (try simp only [World.size_drew, World.size_alloc, World.size_setCell]); omega) hb1; have hz1_0 : w.heap.size < w1.heap.size := (by omega); have hz1_1 : w.heap.size + 1 < w1.heap.size := (by omega)
    go_wp2_with fail
    refine bodyPost_ret (v := .tuple #[.agg #[.slice pn l.length cn, .slice ph hd.length ch, .slice pt tl.length ct], .int .i64 (chkL (l, hd, tl))]) (by simp [results, Try.results12, go_sem, hk1, hz1_0, hz1_1]) rfl ⟨_, _, _, by rw [hf.out.1], .inl ⟨rfl, rfl, rfl, hf.out.2⟩, ?_⟩
    (repeat (first | (with_reducible exact Below.refl _ _) | ((with_reducible refine below_alloc ?_ ?_ _); · (first | omega | (simp; done) | (simp; omega))) | ((with_reducible refine below_setCell ?_ ?_ _); · (first | omega | (simp; done) | (simp; omega))) | (with_reducible refine Below.drew ?_) | (with_reducible refine below_drewN ?_ _) | ((with_reducible refine below_call (by assumption) ?_ ?_); · (first | omega | (simp; done) | (simp; omega)))))
end Go.Proofs.Ytkcenadenmkgnaa
