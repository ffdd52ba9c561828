/- Contracts of layer 4, the document's: Push. -/
import Derived.Test.YtkcenadenmkgnaaC6K
namespace Go.Proofs.Ytkcenadenmkgnaa
open Go.RowKit
set_option linter.unusedVariables false
set_option linter.unusedSimpArgs false

set_option maxRecDepth 100000 in
set_option maxHeartbeats 4000000 in
theorem refpush_any (vn vh vt : Value) (st : LSt) (i a : Int) (w : World) (hv : IsLS w vn vh vt st) (h1 : st.1.length ≤ 1048576) (h2 : st.2.1.length ≤ 1048576) (h3 : st.2.2.length ≤ 1048576) :
    Calls Try.prog 11 #[.agg #[vn, vh, vt], .int .i64 i, .int .i64 a] w fun e w' => ∃ un uh ut, e = .returned (.tuple #[.agg #[un, uh, ut], .int .i64 (pushE st i a)]) ∧ IsLS w' un uh ut (pushS st i a) ∧ Below w.heap.size w w' := by
  have HV := Lib.hid hv
  have ck := Lib.hid (fun W (h : Below w.heap.size w W) => refchk_any vn vh vt st W (HV.out.call h) h1 h2 h3)
  have ca := Lib.hid (fun W (h : Below w.heap.size w W) hR => refall_any vn vh vt st W (HV.out.call h) h1 h2 hR)
  have ci := fun a W (h : Below w.heap.size w W) => is_any vn vh vt st a W (HV.out.call h) h2
  have hcp := fun h => chkL_parts (st := st) h
  have hrep := fun h => rep_chk (st := st) h
  obtain ⟨l, hd, tl⟩ := st
  replace h1 : l.length ≤ 1048576 := h1
  replace h2 : hd.length ≤ 1048576 := h2
  replace h3 : tl.length ≤ 1048576 := h3
  have h1' : (l.length : Int) ≤ 1048576 := by omega
  have hwl : IntKind.i64.wrap ((l.length : Int) - 1) = (l.length : Int) - 1 := IntWalk.i64_in _ (by omega)
  have hwl2 : wrap64 ((l.length : Int) - 1) = (l.length : Int) - 1 := IntWalk.wrap64_in _ ⟨by omega, by omega⟩
  obtain ⟨⟨pn, cn, rfl, hn⟩, ⟨ph, ch, rfl, hh⟩, ⟨pt, ct, rfl, -⟩⟩ := hv
  have HN := Lib.hid hn
  clear hn hh
  have c1 := ci i
  have c2 := fun W => in_any a 0 ((l.length : Int) - 1) W
  have hE : pushE (l, hd, tl) i a = if chkL (l, hd, tl) ≠ 0 then chkL (l, hd, tl) else if isB (l, hd, tl) i = false then 8 else if inB a 0 ((l.length : Int) - 1) = false then 8 else if (nodAt l a.toNat).1 = -1 then 0 else 13 := rfl
  have hS : pushS (l, hd, tl) i a = if pushE (l, hd, tl) i a = 0 then putP (l, hd, tl) i.toNat a.toNat else (l, hd, tl) := rfl
  clear ci
  by_cases hc : chkL (l, hd, tl) = 0
  · rw [hc] at ck
    cases b1 : isB (l, hd, tl) i
    · rw [b1] at c1
      have hf : Hid (pushE (l, hd, tl) i a = 8 ∧ pushS (l, hd, tl) i a = (l, hd, tl)) := by
        have e : pushE (l, hd, tl) i a = 8 := by rw [hE, if_neg (by simp [hc]), if_pos b1]
        exact Lib.hid ⟨e, by rw [hS, e]; rfl⟩
      clear hE hS hc b1 hcp hrep
      go_enter Try.func11, Try.ntmps11
      go_wp2_with fail
      refine (ck.out _ (by (repeat (first | (with_reducible exact Below.refl _ _) | ((with_reducible refine below_alloc ?_ ?_ _); · (first | omega | (simp; done) | (simp; omega))) | ((with_reducible refine below_setCell ?_ ?_ _); · (first | omega | (simp; done) | (simp; omega))) | (with_reducible refine Below.drew ?_) | (with_reducible refine below_drewN ?_ _) | ((with_reducible refine below_call (by assumption) ?_ ?_); · (first | omega | (simp; done) | (simp; omega))))))).mono ?_; rintro e w1 ⟨rfl, hb1⟩
      obtain ⟨hk1, hf1, hz1⟩ := bcellN (n := w.heap.size + 2) (by (try simp only [World.size_drew, World.size_alloc, World.size_setCell]); omega) hb1; have hz1_0 : w.heap.size < w1.heap.size := (by omega); have hz1_1 : w.heap.size + 1 < w1.heap.size := (by omega)
      go_wp2_with fail
      refine (c1 _ (by (repeat (first | (with_reducible exact Below.refl _ _) | ((with_reducible refine below_alloc ?_ ?_ _); · (first | omega | (simp; done) | (simp; omega))) | ((with_reducible refine below_setCell ?_ ?_ _); · (first | omega | (simp; done) | (simp; omega))) | (with_reducible refine Below.drew ?_) | (with_reducible refine below_drewN ?_ _) | ((with_reducible refine below_call (by assumption) ?_ ?_); · (first | omega | (simp; done) | (simp; omega))))))).mono ?_; rintro e w2 ⟨rfl, hb2⟩
      obtain ⟨hk2, hf2, hz2⟩ := bcellN (n := w.heap.size + 2) (by (try simp only [World.size_drew, World.size_alloc, World.size_setCell]); omega) hb2; have hz2_0 : w.heap.size < w2.heap.size := (by omega); have hz2_1 : w.heap.size + 1 < w2.heap.size := (by omega)
      go_wp2_with fail
      refine bodyPost_ret (v := .tuple #[.agg #[.slice pn l.length cn, .slice ph hd.length ch, .slice pt tl.length ct], .int .i64 8]) (by simp [results, Try.results11, go_sem, hk1, hz1_0, hz1_1, hk2, hz2_0, hz2_1]) rfl ⟨_, _, _, by rw [hf.out.1], by rw [hf.out.2]; exact HV.out.call (by (repeat (first | (with_reducible exact Below.refl _ _) | ((with_reducible refine below_alloc ?_ ?_ _); · (first | omega | (simp; done) | (simp; omega))) | ((with_reducible refine below_setCell ?_ ?_ _); · (first | omega | (simp; done) | (simp; omega))) | (with_reducible refine Below.drew ?_) | (with_reducible refine below_drewN ?_ _) | ((with_reducible refine below_call (by assumption) ?_ ?_); · (first | omega | (simp; done) | (simp; omega)))))), ?_⟩
      (repeat (first | (with_reducible exact Below.refl _ _) | ((with_reducible refine below_alloc ?_ ?_ _); · (first | omega | (simp; done) | (simp; omega))) | ((with_reducible refine below_setCell ?_ ?_ _); · (first | omega | (simp; done) | (simp; omega))) | (with_reducible refine Below.drew ?_) | (with_reducible refine below_drewN ?_ _) | ((with_reducible refine below_call (by assumption) ?_ ?_); · (first | omega | (simp; done) | (simp; omega)))))
    · rw [b1] at c1
      cases b2 : inB a 0 ((l.length : Int) - 1)
      · rw [b2] at c2
        have hf : Hid (pushE (l, hd, tl) i a = 8 ∧ pushS (l, hd, tl) i a = (l, hd, tl)) := by
          have e : pushE (l, hd, tl) i a = 8 := by rw [hE, if_neg (by simp [hc]), if_neg (by simp [b1]), if_pos b2]
          exact Lib.hid ⟨e, by rw [hS, e]; rfl⟩
        clear hE hS hc b1 b2 hcp hrep
        go_enter Try.func11, Try.ntmps11
        go_wp2_with fail
        refine (ck.out _ (by (repeat (first | (with_reducible exact Below.refl _ _) | ((with_reducible refine below_alloc ?_ ?_ _); · (first | omega | (simp; done) | (simp; omega))) | ((with_reducible refine below_setCell ?_ ?_ _); · (first | omega | (simp; done) | (simp; omega))) | (with_reducible refine Below.drew ?_) | (with_reducible refine below_drewN ?_ _) | ((with_reducible refine below_call (by assumption) ?_ ?_); · (first | omega | (simp; done) | (simp; omega))))))).mono ?_; rintro e w1 ⟨rfl, hb1⟩
        obtain ⟨hk1, hf1, hz1⟩ := bcellN (n := w.heap.size + 2) (by (try simp only [World.size_drew, World.size_alloc, World.size_setCell]); omega) hb1; have hz1_0 : w.heap.size < w1.heap.size := (by omega); have hz1_1 : w.heap.size + 1 < w1.heap.size := (by omega)
        go_wp2_with fail
        refine (c1 _ (by (repeat (first | (with_reducible exact Below.refl _ _) | ((with_reducible refine below_alloc ?_ ?_ _); · (first | omega | (simp; done) | (simp; omega))) | ((with_reducible refine below_setCell ?_ ?_ _); · (first | omega | (simp; done) | (simp; omega))) | (with_reducible refine Below.drew ?_) | (with_reducible refine below_drewN ?_ _) | ((with_reducible refine below_call (by assumption) ?_ ?_); · (first | omega | (simp; done) | (simp; omega))))))).mono ?_; rintro e w2 ⟨rfl, hb2⟩
        obtain ⟨hk2, hf2, hz2⟩ := bcellN (n := w.heap.size + 2) (by (try simp only [World.size_drew, World.size_alloc, World.size_setCell]); omega) hb2; have hz2_0 : w.heap.size < w2.heap.size := (by omega); have hz2_1 : w.heap.size + 1 < w2.heap.size := (by omega)
        go_wp2_with fail
        refine (c2 _).mono ?_; rintro e w3 ⟨rfl, hb3⟩
        obtain ⟨hk3, hf3, hz3⟩ := bcellN (n := w.heap.size + 2) (by (try simp only [World.size_drew, World.size_alloc, World.size_setCell]); omega) hb3; have hz3_0 : w.heap.size < w3.heap.size := (by omega); have hz3_1 : w.heap.size + 1 < w3.heap.size := (by omega)
        go_wp2_with fail
        refine bodyPost_ret (v := .tuple #[.agg #[.slice pn l.length cn, .slice ph hd.length ch, .slice pt tl.length ct], .int .i64 8]) (by simp [results, Try.results11, go_sem, hk1, hz1_0, hz1_1, hk2, hz2_0, hz2_1, hk3, hz3_0, hz3_1]) rfl ⟨_, _, _, by rw [hf.out.1], by rw [hf.out.2]; exact HV.out.call (by (repeat (first | (with_reducible exact Below.refl _ _) | ((with_reducible refine below_alloc ?_ ?_ _); · (first | omega | (simp; done) | (simp; omega))) | ((with_reducible refine below_setCell ?_ ?_ _); · (first | omega | (simp; done) | (simp; omega))) | (with_reducible refine Below.drew ?_) | (with_reducible refine below_drewN ?_ _) | ((with_reducible refine below_call (by assumption) ?_ ?_); · (first | omega | (simp; done) | (simp; omega)))))), ?_⟩
        (repeat (first | (with_reducible exact Below.refl _ _) | ((with_reducible refine below_alloc ?_ ?_ _); · (first | omega | (simp; done) | (simp; omega))) | ((with_reducible refine below_setCell ?_ ?_ _); · (first | omega | (simp; done) | (simp; omega))) | (with_reducible refine Below.drew ?_) | (with_reducible refine below_drewN ?_ _) | ((with_reducible refine below_call (by assumption) ?_ ?_); · (first | omega | (simp; done) | (simp; omega)))))
      · rw [b2] at c2
        have b1' := b1
        have b2' := b2
        unfold isB at b1'
        rw [inB_iff] at b1' b2'
        replace b1' : 0 ≤ i ∧ i ≤ (hd.length : Int) - 1 := b1'
        obtain ⟨k, rfl⟩ : ∃ k : Nat, i = k := ⟨i.toNat, by omega⟩
        obtain ⟨x, rfl⟩ : ∃ x : Nat, a = x := ⟨a.toNat, by omega⟩
        have hkl : k < hd.length := by omega
        have hkl' : (k : Int) < hd.length := by omega
        have hxl : x < l.length := by omega
        have hxl' : (x : Int) < l.length := by omega
        have hx0 : (0 : Int) ≤ x := by omega
        obtain ⟨bn, on, rfl, d0, d1, d2⟩ := HN.out x hxl
        have hna := nodAt_lt l x hxl
        obtain ⟨y, hy⟩ : ∃ y, l[x].1 = y := ⟨_, rfl⟩
        rw [hy] at d0
        have hny : (nodAt l x).1 = y := by rw [hna]; exact hy
        have HD := Lib.hid d0
        obtain ⟨hln, hkn, htl, hR, -, -⟩ := hcp hc
        have hlk := (links_nodAt hR hxl).1.1
        replace hlk : -1 ≤ (nodAt l x).1 := hlk
        rw [hny] at hlk
        rw [Int.toNat_natCast, hny] at hE
        rw [Int.toNat_natCast, Int.toNat_natCast] at hS
        have HR := Lib.hid hR
        have hrp := hrep hc
        have hln1 : 1 ≤ l.length ∧ l.length ≤ 64 := hln
        have hkn1 : 1 ≤ hd.length ∧ hd.length ≤ 8 := hkn
        clear d0 d1 d2 hna hy hR htl hln hkn
        by_cases hy1 : y = -1
        · subst hy1
          have hf : Hid (pushE (l, hd, tl) k x = 0 ∧ pushS (l, hd, tl) k x = putP (l, hd, tl) k x) := by
            have e : pushE (l, hd, tl) k x = 0 := by rw [hE, if_neg (by simp [hc]), if_neg (by simp [b1]), if_neg (by simp [b2]), if_pos rfl]
            exact Lib.hid ⟨e, by rw [hS, if_pos e]⟩
          obtain ⟨L, hL⟩ : ∃ L, allL (l, hd, tl) = L := ⟨_, rfl⟩
          have hLl : L.length = hd.length := by rw [← hL, allL_len]
          rw [hL] at hrp
          have hkL : k < L.length := by omega
          have hfree : ∀ j (hj : j < L.length), (x : Int) ∉ L[j] := fun j hj hm => by
            have := (rep_mem hrp hj hm).2.1
            replace this : (nodAt l x).1 = j := this
            omega
          have hput := rep_put hrp hkL hxl hfree
          have hSt : Hid (laidS l.length (L.set k (L[k] ++ [(x : Int)])) = putP (l, hd, tl) k x) := Lib.hid (laid_is (st := (l, hd, tl)) hput (putP_len _ _ _).1)
          have hGd : Hid (GoodL l.length (L.set k (L[k] ++ [(x : Int)]))) := Lib.hid (by have h := rep_good hput; rw [(putP_len _ _ _).1] at h; exact h)
          have hXn : L[k].length ≤ l.length := by
            have := nodup_bd (hrp.nodup hkL) (fun a ha => hrp.bd hkL ha)
            exact this
          have HLL := Lib.hid hLl
          clear hE hS hc b1 b2 b1' b2' hcp hrep hlk hny hrp hfree hput
          obtain ⟨i1, gi, gj0, gj1, gj2⟩ := info_parts info_int
          go_enter Try.func11, Try.ntmps11
          go_wp2_with fail
          refine (ck.out _ (by (repeat (first | (with_reducible exact Below.refl _ _) | ((with_reducible refine below_alloc ?_ ?_ _); · (first | omega | (simp; done) | (simp; omega))) | ((with_reducible refine below_setCell ?_ ?_ _); · (first | omega | (simp; done) | (simp; omega))) | (with_reducible refine Below.drew ?_) | (with_reducible refine below_drewN ?_ _) | ((with_reducible refine below_call (by assumption) ?_ ?_); · (first | omega | (simp; done) | (simp; omega))))))).mono ?_; rintro e w1 ⟨rfl, hb1⟩
          obtain ⟨hk1, hf1, hz1⟩ := bcellN (n := w.heap.size + 2) (by (try simp only [World.size_drew, World.size_alloc, World.size_setCell]); omega) hb1; have hz1_0 : w.heap.size < w1.heap.size := (by omega); have hz1_1 : w.heap.size + 1 < w1.heap.size := (by omega)
          go_wp2_with fail
          refine (c1 _ (by (repeat (first | (with_reducible exact Below.refl _ _) | ((with_reducible refine below_alloc ?_ ?_ _); · (first | omega | (simp; done) | (simp; omega))) | ((with_reducible refine below_setCell ?_ ?_ _); · (first | omega | (simp; done) | (simp; omega))) | (with_reducible refine Below.drew ?_) | (with_reducible refine below_drewN ?_ _) | ((with_reducible refine below_call (by assumption) ?_ ?_); · (first | omega | (simp; done) | (simp; omega))))))).mono ?_; rintro e w2 ⟨rfl, hb2⟩
          obtain ⟨hk2, hf2, hz2⟩ := bcellN (n := w.heap.size + 2) (by (try simp only [World.size_drew, World.size_alloc, World.size_setCell]); omega) hb2; have hz2_0 : w.heap.size < w2.heap.size := (by omega); have hz2_1 : w.heap.size + 1 < w2.heap.size := (by omega)
          go_wp2_with fail
          refine (c2 _).mono ?_; rintro e w3 ⟨rfl, hb3⟩
          obtain ⟨hk3, hf3, hz3⟩ := bcellN (n := w.heap.size + 2) (by (try simp only [World.size_drew, World.size_alloc, World.size_setCell]); omega) hb3; have hz3_0 : w.heap.size < w3.heap.size := (by omega); have hz3_1 : w.heap.size + 1 < w3.heap.size := (by omega)
          have hB3 : Below w.heap.size w w3 := by (repeat (first | (with_reducible exact Below.refl _ _) | ((with_reducible refine below_alloc ?_ ?_ _); · (first | omega | (simp; done) | (simp; omega))) | ((with_reducible refine below_setCell ?_ ?_ _); · (first | omega | (simp; done) | (simp; omega))) | (with_reducible refine Below.drew ?_) | (with_reducible refine below_drewN ?_ _) | ((with_reducible refine below_call (by assumption) ?_ ?_); · (first | omega | (simp; done) | (simp; omega)))))
          have c0 := (hB3.cell (p := ⟨bn, on + x * 3, none⟩) (World.block_lt_of_cell? _ _ HD.out)).trans HD.out
          go_wp2_with fail
          refine (ca.out _ (by (repeat (first | (with_reducible exact Below.refl _ _) | ((with_reducible refine below_alloc ?_ ?_ _); · (first | omega | (simp; done) | (simp; omega))) | ((with_reducible refine below_setCell ?_ ?_ _); · (first | omega | (simp; done) | (simp; omega))) | (with_reducible refine Below.drew ?_) | (with_reducible refine below_drewN ?_ _) | ((with_reducible refine below_call (by assumption) ?_ ?_); · (first | omega | (simp; done) | (simp; omega)))))) HR.out).mono ?_; rintro e w5 ⟨v, vs, rfl, hO, hb5⟩
          obtain ⟨hk5, hf5, hz5⟩ := bcellN (n := w.heap.size + 2) (by (try simp only [World.size_drew, World.size_alloc, World.size_setCell]); omega) hb5; have hz5_0 : w.heap.size < w5.heap.size := (by omega); have hz5_1 : w.heap.size + 1 < w5.heap.size := (by omega)
          have hs5 := hb5.size
          (try simp only [World.size_drew, World.size_alloc, World.size_setCell] at hs5)
          rw [hL] at hO
          replace hO := hO.mono (B' := w.heap.size + 2) (by (try simp only [World.size_drew, World.size_alloc, World.size_setCell]); omega)
          obtain ⟨gl, cl, hve⟩ := own_some hO.row (by omega)
          subst hve
          have hgl := own_lt hO.row
          obtain ⟨u, hu, hUo⟩ := hO.inn k hkL
          obtain ⟨ua, uc, hue⟩ := rowI_shape hUo
          obtain ⟨X, hX⟩ : ∃ X, L[k] = X := ⟨_, rfl⟩
          rw [hX] at hUo hue hXn hSt hGd
          subst hue
          have cl0 := (hO.row.cellAt k (by omega)).trans hu
          have HO := Lib.hid hO
          have HU := Lib.hid hUo
          have HUU := Lib.hid hu
          have HL2 := Lib.hid hL
          have hkL' : (k : Int) < L.length := by omega
          clear hO hUo hu hL hX hLl
          go_wp2_with (at_builtin; (conv => skip); refine stopHere ?_)
          refine And.intro ?_ trivial
          refine wpList_append_own_at _ rfl _ _ 23 rfl (w.heap.size + 2) 3 i1 (.int .i64 0) 1 8 Try.underlying23 gi gj0 gj1 gj2 rfl (by decide) _ X.length (X.map (Value.int .i64)) rfl (HU.out.alloc _) ⟨w5.heap.size, 0, none⟩ 1 1 [.int .i64 x] rfl rfl (cell_one_new _ _ _) (by simp [Value.oneCell']) (by unfold maxLen; omega) (by omega) (by simp; omega) ?_
          intro v' w6 hown' hgr _ hat
          have hb6 : Below (w.heap.size + 2) w5 w6 := ((Below.refl _ _).alloc (by omega) _).grown hgr (by simp; omega) (fun q hq => (World.ownsRow.lt HU.out q hq).1)
          have hs6 := hb6.size
          have hgs := hgr.size
          simp only [World.size_alloc] at hgs
          have hr6 := row_grown ((HO.out.row).alloc (.cells #[.int .i64 x] 3)) hgr (fun q hq e => by cases hq; exact HO.out.off k _ gl HUU.out e.symm rfl)
          have cl6 := (hr6.cellAt k (by omega)).trans HUU.out
          have fl6 := fun o => hr6.frozenAt o
          obtain ⟨va, vc, rfl⟩ := own_shape hown'
          have hown6 : OwnI w6 (w.heap.size + 2) (.slice va (X.length + 1) vc) (X ++ [(x : Int)]) := by
            show World.ownsRow _ _ _ _ _ _ _
            rw [List.length_append, List.map_append]; exact hown'
          have hnot : NotAt gl (.slice va (X.length + 1) vc) := own_notAt (n := 0) hown6 (fun q hq e => by
            subst e
            rcases hat with hat | hat
            · exact HO.out.off k _ q HUU.out (hat ▸ hq) rfl
            · rw [hat] at hq; cases hq; simp at hgl; omega)
          have HRD0 := HO.out.put (w3 := w6) hkL HUU.out (by omega) (fun q hq hne => (hgr.block q (by simp; omega) hne).trans (Below.heap_alloc _ _ _ hq)) hown6.reads hnot
          have HRD := Lib.hid HRD0
          have HBB : Hid (Below w.heap.size w (w6.setCell ⟨gl, k, none⟩ (.slice va (X.length + 1) vc))) := Lib.hid (below_at (show Below w.heap.size w w6 from Below.trans (show Below w.heap.size w w5 by (repeat (first | (with_reducible exact Below.refl _ _) | ((with_reducible refine below_alloc ?_ ?_ _); · (first | omega | (simp; done) | (simp; omega))) | ((with_reducible refine below_setCell ?_ ?_ _); · (first | omega | (simp; done) | (simp; omega))) | (with_reducible refine Below.drew ?_) | (with_reducible refine below_drewN ?_ _) | ((with_reducible refine below_call (by assumption) ?_ ?_); · (first | omega | (simp; done) | (simp; omega)))))) (hb6.mono (by omega))) _ (by omega))
          have k6 : ∀ b o, b < w.heap.size + 2 → w6.cell? ⟨b, o, none⟩ = w5.cell? ⟨b, o, none⟩ := fun b o h => hb6.cell (p := ⟨b, o, none⟩) h
          have g6 : ∀ b o, b < w.heap.size + 2 → w6.frozen? ⟨b, o, none⟩ = w5.frozen? ⟨b, o, none⟩ := fun b o h => hb6.frozen (p := ⟨b, o, none⟩) h
          have hgl6 : gl < w6.heap.size := by omega
          have gne0 : gl ≠ w.heap.size := by omega
          have gne0' := gne0.symm
          have gne1 : gl ≠ w.heap.size + 1 := by omega
          have gne1' := gne1.symm
          clear hown' hgr hat hb6 hr6 hown6 hnot HRD0 HU HO HUU cl0
          have k60 : w6.cell? ⟨w.heap.size, 0, none⟩ = some (.slice (some ⟨bn, on, none⟩) l.length cn) := by simp [go_sem, k6, hk1, hk2, hk3, hk5]
          go_wp2_with fail
          refine gen_calls (F := fun wt => ((wt.cell? ⟨w.heap.size + 1, 0, none⟩ = some (.slice none 0 0) ∧ wt.cell? ⟨w.heap.size + 1, 1, none⟩ = some (.slice none 0 0) ∧ wt.cell? ⟨w.heap.size + 1, 2, none⟩ = some (.slice none 0 0)) ∧ (wt.frozen? ⟨w.heap.size + 1, 0, none⟩ = false ∧ wt.frozen? ⟨w.heap.size + 1, 1, none⟩ = false ∧ wt.frozen? ⟨w.heap.size + 1, 2, none⟩ = false)) ∧ RdII wt (w.heap.size + 2) gl cl (vs.set k (.slice va (X.length + 1) vc)) (L.set k (X ++ [(x : Int)])) ∧ Below w.heap.size w wt ∧ w.heap.size + 2 ≤ wt.heap.size) ⟨⟨⟨by simp [go_sem, hk1, hz1_0, hz1_1, hk2, hz2_0, hz2_1, hk3, hz3_0, hz3_1, hk5, hz5_0, hz5_1, k6, gne0, gne0', gne1, gne1'], by simp [go_sem, hk1, hz1_0, hz1_1, hk2, hz2_0, hz2_1, hk3, hz3_0, hz3_1, hk5, hz5_0, hz5_1, k6, gne0, gne0', gne1, gne1'], by simp [go_sem, hk1, hz1_0, hz1_1, hk2, hz2_0, hz2_1, hk3, hz3_0, hz3_1, hk5, hz5_0, hz5_1, k6, gne0, gne0', gne1, gne1']⟩, ⟨by simp [go_sem, hf1, hz1_0, hz1_1, hf2, hz2_0, hz2_1, hf3, hz3_0, hz3_1, hf5, hz5_0, hz5_1, g6, gne0, gne0', gne1, gne1'], by simp [go_sem, hf1, hz1_0, hz1_1, hf2, hz2_0, hz2_1, hf3, hz3_0, hz3_1, hf5, hz5_0, hz5_1, g6, gne0, gne0', gne1, gne1'], by simp [go_sem, hf1, hz1_0, hz1_1, hf2, hz2_0, hz2_1, hf3, hz3_0, hz3_1, hf5, hz5_0, hz5_1, g6, gne0, gne0', gne1, gne1']⟩⟩, HRD.out, HBB.out, by (try simp only [World.size_drew, World.size_alloc, World.size_setCell]); omega⟩ (fun W hF => ?_)
          obtain ⟨⟨⟨r0, r1, r2⟩, ⟨z0, z1, z2⟩⟩, hRD, hB, hz⟩ := hF
          clear hk1 hf1 hz1 hz1_0 hz1_1 hb1 hk2 hf2 hz2 hz2_0 hz2_1 hb2 hk3 hf3 hz3 hz3_0 hz3_1 hb3 hk5 hf5 hz5 hz5_0 hz5_1 hb5 k6 g6 k60 cl6 fl6 hgl6 HRD HBB
          have hRR := hRD.reads
          rw [List.length_set] at hRR
          refine (laid_any l.length _ _ W hRR hGd.out (by omega) (by have := HLL.out; rw [List.length_set]; omega)).mono ?_; rintro e w90 ⟨un, uh, ut, rfl, hI, hfr, hb90⟩
          have hs90 := hb90.size
          have c90 := fun b o (h : b < w.heap.size + 2) => hb90.cell (p := ⟨b, o, none⟩) (by show b < _; omega)
          have f90 := fun b o (h : b < w.heap.size + 2) => hb90.frozen (p := ⟨b, o, none⟩) (by show b < _; omega)
          replace r0 := (c90 _ 0 (by omega)).trans r0
          replace r1 := (c90 _ 1 (by omega)).trans r1
          replace r2 := (c90 _ 2 (by omega)).trans r2
          replace z0 := (f90 _ 0 (by omega)).trans z0
          replace z1 := (f90 _ 1 (by omega)).trans z1
          replace z2 := (f90 _ 2 (by omega)).trans z2
          have hB90 := hB.trans (hb90.mono (by omega))
          rw [hSt.out] at hI
          have HI := Lib.hid hI
          have HF9 := Lib.hid (hfr.mono (B' := w.heap.size + 2) hz)
          obtain ⟨⟨p9, n9, rfl, -⟩, ⟨p8, n8, rfl, -⟩, ⟨p7, n7, rfl, -⟩⟩ := id hI
          clear hI hfr hb90 c90 f90 hRR hRD
          go_wp2_with fail
          refine bodyPost_ret (v := .tuple #[.agg #[.slice p9 (putP (l, hd, tl) k x).1.length n9, .slice p8 (putP (l, hd, tl) k x).2.1.length n8, .slice p7 (putP (l, hd, tl) k x).2.2.length n7], .int .i64 0]) (by simp [results, Try.results11, go_sem, r0, r1, r2, z0, z1, z2]) rfl ⟨_, _, _, by rw [hf.out.1], by rw [hf.out.2]; exact IsLS.from (IsLS.from (IsLS.from HI.out HF9.out (by omega)) HF9.out (by omega)) HF9.out (by omega), ?_⟩
          (repeat (first | (with_reducible exact Below.refl _ _) | ((with_reducible refine below_alloc ?_ ?_ _); · (first | omega | (simp; done) | (simp; omega))) | ((with_reducible refine below_setCell ?_ ?_ _); · (first | omega | (simp; done) | (simp; omega))) | (with_reducible refine Below.drew ?_) | (with_reducible refine below_drewN ?_ _) | ((with_reducible refine below_call (by assumption) ?_ ?_); · (first | omega | (simp; done) | (simp; omega)))))
        · have hy2 : (0 : Int) ≤ y := by omega
          have hf : Hid (pushE (l, hd, tl) k x = 13 ∧ pushS (l, hd, tl) k x = (l, hd, tl)) := by
            have e : pushE (l, hd, tl) k x = 13 := by rw [hE, if_neg (by simp [hc]), if_neg (by simp [b1]), if_neg (by simp [b2]), if_neg hy1]
            exact Lib.hid ⟨e, by rw [hS, e]; rfl⟩
          clear hE hS hc b1 b2 b1' b2' hy1 hlk hny hrp hcp hrep
          go_enter Try.func11, Try.ntmps11
          go_wp2_with fail
          refine (ck.out _ (by (repeat (first | (with_reducible exact Below.refl _ _) | ((with_reducible refine below_alloc ?_ ?_ _); · (first | omega | (simp; done) | (simp; omega))) | ((with_reducible refine below_setCell ?_ ?_ _); · (first | omega | (simp; done) | (simp; omega))) | (with_reducible refine Below.drew ?_) | (with_reducible refine below_drewN ?_ _) | ((with_reducible refine below_call (by assumption) ?_ ?_); · (first | omega | (simp; done) | (simp; omega))))))).mono ?_; rintro e w1 ⟨rfl, hb1⟩
          obtain ⟨hk1, hf1, hz1⟩ := bcellN (n := w.heap.size + 2) (by (try simp only [World.size_drew, World.size_alloc, World.size_setCell]); omega) hb1; have hz1_0 : w.heap.size < w1.heap.size := (by omega); have hz1_1 : w.heap.size + 1 < w1.heap.size := (by omega)
          go_wp2_with fail
          refine (c1 _ (by (repeat (first | (with_reducible exact Below.refl _ _) | ((with_reducible refine below_alloc ?_ ?_ _); · (first | omega | (simp; done) | (simp; omega))) | ((with_reducible refine below_setCell ?_ ?_ _); · (first | omega | (simp; done) | (simp; omega))) | (with_reducible refine Below.drew ?_) | (with_reducible refine below_drewN ?_ _) | ((with_reducible refine below_call (by assumption) ?_ ?_); · (first | omega | (simp; done) | (simp; omega))))))).mono ?_; rintro e w2 ⟨rfl, hb2⟩
          obtain ⟨hk2, hf2, hz2⟩ := bcellN (n := w.heap.size + 2) (by (try simp only [World.size_drew, World.size_alloc, World.size_setCell]); omega) hb2; have hz2_0 : w.heap.size < w2.heap.size := (by omega); have hz2_1 : w.heap.size + 1 < w2.heap.size := (by omega)
          go_wp2_with fail
          refine (c2 _).mono ?_; rintro e w3 ⟨rfl, hb3⟩
          obtain ⟨hk3, hf3, hz3⟩ := bcellN (n := w.heap.size + 2) (by (try simp only [World.size_drew, World.size_alloc, World.size_setCell]); omega) hb3; have hz3_0 : w.heap.size < w3.heap.size := (by omega); have hz3_1 : w.heap.size + 1 < w3.heap.size := (by omega)
          have hB3 : Below w.heap.size w w3 := by (repeat (first | (with_reducible exact Below.refl _ _) | ((with_reducible refine below_alloc ?_ ?_ _); · (first | omega | (simp; done) | (simp; omega))) | ((with_reducible refine below_setCell ?_ ?_ _); · (first | omega | (simp; done) | (simp; omega))) | (with_reducible refine Below.drew ?_) | (with_reducible refine below_drewN ?_ _) | ((with_reducible refine below_call (by assumption) ?_ ?_); · (first | omega | (simp; done) | (simp; omega)))))
          have c0 := (hB3.cell (p := ⟨bn, on + x * 3, none⟩) (World.block_lt_of_cell? _ _ HD.out)).trans HD.out
          go_wp2_with fail
          refine bodyPost_ret (v := .tuple #[.agg #[.slice (some ⟨bn, on, none⟩) l.length cn, .slice ph hd.length ch, .slice pt tl.length ct], .int .i64 13]) (by simp [results, Try.results11, go_sem, hk1, hz1_0, hz1_1, hk2, hz2_0, hz2_1, hk3, hz3_0, hz3_1]) rfl ⟨_, _, _, by rw [hf.out.1], by rw [hf.out.2]; exact HV.out.call (by (repeat (first | (with_reducible exact Below.refl _ _) | ((with_reducible refine below_alloc ?_ ?_ _); · (first | omega | (simp; done) | (simp; omega))) | ((with_reducible refine below_setCell ?_ ?_ _); · (first | omega | (simp; done) | (simp; omega))) | (with_reducible refine Below.drew ?_) | (with_reducible refine below_drewN ?_ _) | ((with_reducible refine below_call (by assumption) ?_ ?_); · (first | omega | (simp; done) | (simp; omega)))))), ?_⟩
          (repeat (first | (with_reducible exact Below.refl _ _) | ((with_reducible refine below_alloc ?_ ?_ _); · (first | omega | (simp; done) | (simp; omega))) | ((with_reducible refine below_setCell ?_ ?_ _); · (first | omega | (simp; done) | (simp; omega))) | (with_reducible refine Below.drew ?_) | (with_reducible refine below_drewN ?_ _) | ((with_reducible refine below_call (by assumption) ?_ ?_); · (first | omega | (simp; done) | (simp; omega)))))
  · have hf : Hid (pushE (l, hd, tl) i a = chkL (l, hd, tl) ∧ pushS (l, hd, tl) i a = (l, hd, tl)) := by
      have e : pushE (l, hd, tl) i a = chkL (l, hd, tl) := by rw [hE, if_pos hc]
      exact Lib.hid ⟨e, by rw [hS, e, if_neg hc]⟩
    have hc1 : (chkL (l, hd, tl) != 0) = true := by simpa using hc
    clear hE hS hc hcp hrep
    go_enter Try.func11, Try.ntmps11
    go_wp2_with fail
    refine (ck.out _ (by (repeat (first | (with_reducible exact Below.refl _ _) | ((with_reducible refine below_alloc ?_ ?_ _); · (first | omega | (simp; done) | (simp; omega))) | ((with_reducible refine below_setCell ?_ ?_ _); · (first | omega | (simp; done) | (simp; omega))) | (with_reducible refine Below.drew ?_) | (with_reducible refine below_drewN ?_ _) | ((with_reducible refine below_call (by assumption) ?_ ?_); · (first | omega | (simp; done) | (simp; omega))))))).mono ?_; rintro e w1 ⟨rfl, hb1⟩
    obtain ⟨hk1, hf1, hz1⟩ := bcellN (n := w.heap.size + 2) (by (try simp only [World.size_drew, World.size_alloc, World.size_setCell]); omega) hb1; have hz1_0 : w.heap.size < w1.heap.size := (by omega); have hz1_1 : w.heap.size + 1 < w1.heap.size := (by omega)
    go_wp2_with fail
    refine bodyPost_ret (v := .tuple #[.agg #[.slice pn l.length cn, .slice ph hd.length ch, .slice pt tl.length ct], .int .i64 (chkL (l, hd, tl))]) (by simp [results, Try.results11, go_sem, hk1, hz1_0, hz1_1]) rfl ⟨_, _, _, by rw [hf.out.1], by rw [hf.out.2]; exact HV.out.call (by (repeat (first | (with_reducible exact Below.refl _ _) | ((with_reducible refine below_alloc ?_ ?_ _); · (first | omega | (simp; done) | (simp; omega))) | ((with_reducible refine below_setCell ?_ ?_ _); · (first | omega | (simp; done) | (simp; omega))) | (with_reducible refine Below.drew ?_) | (with_reducible refine below_drewN ?_ _) | ((with_reducible refine below_call (by assumption) ?_ ?_); · (first | omega | (simp; done) | (simp; omega)))))), ?_⟩
    (repeat (first | (with_reducible exact Below.refl _ _) | ((with_reducible refine below_alloc ?_ ?_ _); · (first | omega | (simp; done) | (simp; omega))) | ((with_reducible refine below_setCell ?_ ?_ _); · (first | omega | (simp; done) | (simp; omega))) | (with_reducible refine Below.drew ?_) | (with_reducible refine below_drewN ?_ _) | ((with_reducible refine below_call (by assumption) ?_ ?_); · (first | omega | (simp; done) | (simp; omega)))))
end Go.Proofs.Ytkcenadenmkgnaa
