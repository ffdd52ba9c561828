/- The document's Turn. -/
import Derived.Test.YtkcenadenmkgnaaC9R
import Derived.Deep.RegionLaw
namespace Go.Proofs.Ytkcenadenmkgnaa
open Go.RowKit
set_option linter.unusedVariables false
set_option linter.unusedSimpArgs false

theorem gen_worldT {P : Program} {C : Code} {Q : Exit → Act → World → Prop} {a : Act} {W : World} (F : World → Prop) (hF : F W) (h : ∀ wt, F wt → Code.wp P C Q a wt) : Code.wp P C Q a W := h W hF
theorem gen_exitT {K : Act → World → Prop} {Q : Exit → Act → World → Prop} {a : Act} {W : World} (F : World → Prop) (hF : F W) (h : ∀ wt, F wt → Exit.then K Q .normal a wt) : Exit.then K Q .normal a W := h W hF

set_option maxRecDepth 100000 in
set_option maxHeartbeats 8000000 in
theorem refturn_any (vn vh vt : Value) (st : LSt) (i : Int) (w : World) (hv : IsLS w vn vh vt st) (h1 : st.1.length ≤ 1048576) (h2 : st.2.1.length ≤ 1048576) (h3 : st.2.2.length ≤ 1048576) :
    Calls Try.prog 19 #[.agg #[vn, vh, vt], .int .i64 i] w fun e w' => ∃ un uh ut, e = .returned (.agg #[un, uh, ut]) ∧ IsLS w' un uh ut (turnS st i) ∧ Below w.heap.size w w' := by
  have HV := Lib.hid hv
  have ck := Lib.hid (fun W (h : Below w.heap.size w W) => refchk_any vn vh vt st W (HV.out.call h) h1 h2 h3)
  have ca := Lib.hid (fun W (h : Below w.heap.size w W) hR => refall_any vn vh vt st W (HV.out.call h) h1 h2 hR)
  have ci := fun a W (h : Below w.heap.size w W) => is_any vn vh vt st a W (HV.out.call h) h2
  have hcp := fun h => chkL_parts (st := st) h
  have hrep := fun h => rep_chk (st := st) h
  have hno := fun h => front_no (st := st) (i := i) h
  have hyes := fun k h hi => front_yes (st := st) (i := k) h hi
  have hTS : turnS st i = if frontL st i = -1 then st else putP (outP st (frontL st i).toNat) i.toNat (frontL st i).toNat := rfl
  have hask : askB st i = (decide (chkL st = 0) && isB st i) := rfl
  obtain ⟨l, hd, tl⟩ := st
  replace h1 : l.length ≤ 1048576 := h1
  replace h2 : hd.length ≤ 1048576 := h2
  replace h3 : tl.length ≤ 1048576 := h3
  obtain ⟨⟨pn, cn, rfl, -⟩, ⟨ph, ch, rfl, hh⟩, ⟨pt, ct, rfl, -⟩⟩ := hv
  have HH := Lib.hid hh
  clear hh
  have c1 := ci i
  clear ci
  by_cases hc : chkL (l, hd, tl) = 0
  · rw [hc] at ck
    cases b1 : isB (l, hd, tl) i
    · rw [b1] at c1
      have hf : Hid (turnS (l, hd, tl) i = (l, hd, tl)) := Lib.hid (by rw [hTS, if_pos (hno (by rw [hask, b1, Bool.and_false]))])
      clear hTS hask hc b1 hcp hrep hno hyes
      go_enter Try.func19, Try.ntmps19
      go_wp2_with fail
      refine (ck.out _ (by (repeat (first | (with_reducible exact Below.refl _ _) | ((with_reducible refine below_alloc ?_ ?_ _); · (first | omega | (simp; done) | (simp; omega))) | ((with_reducible refine below_setCell ?_ ?_ _); · (first | omega | (simp; done) | (simp; omega))) | (with_reducible refine Below.drew ?_) | (with_reducible refine below_drewN ?_ _) | ((with_reducible refine below_call (by assumption) ?_ ?_); · (first | omega | (simp; done) | (simp; omega))))))).mono ?_; rintro e w1 ⟨rfl, hb1⟩
      obtain ⟨hk1, hf1, hz1⟩ := bcellN (n := w.heap.size + 2) (by (try simp only [World.size_drew, World.size_alloc, World.size_setCell]); omega) hb1; have hz1_0 : w.heap.size < w1.heap.size := (by omega); have hz1_1 : w.heap.size + 1 < w1.heap.size := (by omega)
      go_wp2_with fail
      refine (c1 _ (by (repeat (first | (with_reducible exact Below.refl _ _) | ((with_reducible refine below_alloc ?_ ?_ _); · (first | omega | (simp; done) | (simp; omega))) | ((with_reducible refine below_setCell ?_ ?_ _); · (first | omega | (simp; done) | (simp; omega))) | (with_reducible refine Below.drew ?_) | (with_reducible refine below_drewN ?_ _) | ((with_reducible refine below_call (by assumption) ?_ ?_); · (first | omega | (simp; done) | (simp; omega))))))).mono ?_; rintro e w2 ⟨rfl, hb2⟩
      obtain ⟨hk2, hf2, hz2⟩ := bcellN (n := w.heap.size + 2) (by (try simp only [World.size_drew, World.size_alloc, World.size_setCell]); omega) hb2; have hz2_0 : w.heap.size < w2.heap.size := (by omega); have hz2_1 : w.heap.size + 1 < w2.heap.size := (by omega)
      go_wp2_with fail
      refine bodyPost_ret (v := .agg #[.slice pn l.length cn, .slice ph hd.length ch, .slice pt tl.length ct]) (by simp [results, Try.results19, go_sem, hk1, hz1_0, hz1_1, hk2, hz2_0, hz2_1]) rfl ⟨_, _, _, rfl, by rw [hf.out]; exact HV.out.call (by (repeat (first | (with_reducible exact Below.refl _ _) | ((with_reducible refine below_alloc ?_ ?_ _); · (first | omega | (simp; done) | (simp; omega))) | ((with_reducible refine below_setCell ?_ ?_ _); · (first | omega | (simp; done) | (simp; omega))) | (with_reducible refine Below.drew ?_) | (with_reducible refine below_drewN ?_ _) | ((with_reducible refine below_call (by assumption) ?_ ?_); · (first | omega | (simp; done) | (simp; omega)))))), ?_⟩
      (repeat (first | (with_reducible exact Below.refl _ _) | ((with_reducible refine below_alloc ?_ ?_ _); · (first | omega | (simp; done) | (simp; omega))) | ((with_reducible refine below_setCell ?_ ?_ _); · (first | omega | (simp; done) | (simp; omega))) | (with_reducible refine Below.drew ?_) | (with_reducible refine below_drewN ?_ _) | ((with_reducible refine below_call (by assumption) ?_ ?_); · (first | omega | (simp; done) | (simp; omega)))))
    · rw [b1] at c1
      have b1' := b1
      unfold isB at b1'
      rw [inB_iff] at b1'
      replace b1' : 0 ≤ i ∧ i ≤ (hd.length : Int) - 1 := b1'
      obtain ⟨k, rfl⟩ : ∃ k : Nat, i = k := ⟨i.toNat, by omega⟩
      have hkl : k < hd.length := by omega
      have hkl' : (k : Int) < hd.length := by omega
      have hfr := hyes k (by rw [hask, hc, b1]; rfl) hkl
      replace hfr : frontL (l, hd, tl) k = hd[k] := hfr
      obtain ⟨hln, hkn, htl, hR, -, -⟩ := hcp hc
      have hlk := links_head hR (j := k) hkl
      replace hlk : -1 ≤ hd[k] ∧ hd[k] < l.length := hlk
      obtain ⟨bn, on, rfl, d0⟩ := HH.out k hkl
      obtain ⟨y, hy⟩ : ∃ y, hd[k] = y := ⟨_, rfl⟩
      rw [hy] at d0 hlk hfr
      have HD := Lib.hid d0
      have HR := Lib.hid hR
      have hrp := hrep hc
      have hln1 : 1 ≤ l.length ∧ l.length ≤ 64 := hln
      have hkn1 : 1 ≤ hd.length ∧ hd.length ≤ 8 := hkn
      clear d0 hy hR htl hln hkn
      by_cases hy1 : y < 0
      · have hf : Hid (turnS (l, hd, tl) k = (l, hd, tl)) := Lib.hid (by rw [hTS, if_pos (by rw [hfr]; omega)])
        clear hTS hask hc b1 b1' hcp hrep hno hyes hlk hrp hfr
        go_enter Try.func19, Try.ntmps19
        go_wp2_with fail
        refine (ck.out _ (by (repeat (first | (with_reducible exact Below.refl _ _) | ((with_reducible refine below_alloc ?_ ?_ _); · (first | omega | (simp; done) | (simp; omega))) | ((with_reducible refine below_setCell ?_ ?_ _); · (first | omega | (simp; done) | (simp; omega))) | (with_reducible refine Below.drew ?_) | (with_reducible refine below_drewN ?_ _) | ((with_reducible refine below_call (by assumption) ?_ ?_); · (first | omega | (simp; done) | (simp; omega))))))).mono ?_; rintro e w1 ⟨rfl, hb1⟩
        obtain ⟨hk1, hf1, hz1⟩ := bcellN (n := w.heap.size + 2) (by (try simp only [World.size_drew, World.size_alloc, World.size_setCell]); omega) hb1; have hz1_0 : w.heap.size < w1.heap.size := (by omega); have hz1_1 : w.heap.size + 1 < w1.heap.size := (by omega)
        go_wp2_with fail
        refine (c1 _ (by (repeat (first | (with_reducible exact Below.refl _ _) | ((with_reducible refine below_alloc ?_ ?_ _); · (first | omega | (simp; done) | (simp; omega))) | ((with_reducible refine below_setCell ?_ ?_ _); · (first | omega | (simp; done) | (simp; omega))) | (with_reducible refine Below.drew ?_) | (with_reducible refine below_drewN ?_ _) | ((with_reducible refine below_call (by assumption) ?_ ?_); · (first | omega | (simp; done) | (simp; omega))))))).mono ?_; rintro e w2 ⟨rfl, hb2⟩
        obtain ⟨hk2, hf2, hz2⟩ := bcellN (n := w.heap.size + 2) (by (try simp only [World.size_drew, World.size_alloc, World.size_setCell]); omega) hb2; have hz2_0 : w.heap.size < w2.heap.size := (by omega); have hz2_1 : w.heap.size + 1 < w2.heap.size := (by omega)
        have hB2 : Below w.heap.size w w2 := by (repeat (first | (with_reducible exact Below.refl _ _) | ((with_reducible refine below_alloc ?_ ?_ _); · (first | omega | (simp; done) | (simp; omega))) | ((with_reducible refine below_setCell ?_ ?_ _); · (first | omega | (simp; done) | (simp; omega))) | (with_reducible refine Below.drew ?_) | (with_reducible refine below_drewN ?_ _) | ((with_reducible refine below_call (by assumption) ?_ ?_); · (first | omega | (simp; done) | (simp; omega)))))
        have c0 := (hB2.cell (p := ⟨bn, on + k, none⟩) (World.block_lt_of_cell? _ _ HD.out)).trans HD.out
        go_wp2_with fail
        refine bodyPost_ret (v := .agg #[.slice pn l.length cn, .slice (some ⟨bn, on, none⟩) hd.length ch, .slice pt tl.length ct]) (by simp [results, Try.results19, go_sem, hk1, hz1_0, hz1_1, hk2, hz2_0, hz2_1]) rfl ⟨_, _, _, rfl, by rw [hf.out]; exact HV.out.call (by (repeat (first | (with_reducible exact Below.refl _ _) | ((with_reducible refine below_alloc ?_ ?_ _); · (first | omega | (simp; done) | (simp; omega))) | ((with_reducible refine below_setCell ?_ ?_ _); · (first | omega | (simp; done) | (simp; omega))) | (with_reducible refine Below.drew ?_) | (with_reducible refine below_drewN ?_ _) | ((with_reducible refine below_call (by assumption) ?_ ?_); · (first | omega | (simp; done) | (simp; omega)))))), ?_⟩
        (repeat (first | (with_reducible exact Below.refl _ _) | ((with_reducible refine below_alloc ?_ ?_ _); · (first | omega | (simp; done) | (simp; omega))) | ((with_reducible refine below_setCell ?_ ?_ _); · (first | omega | (simp; done) | (simp; omega))) | (with_reducible refine Below.drew ?_) | (with_reducible refine below_drewN ?_ _) | ((with_reducible refine below_call (by assumption) ?_ ?_); · (first | omega | (simp; done) | (simp; omega)))))
      · obtain ⟨L, hL⟩ : ∃ L, allL (l, hd, tl) = L := ⟨_, rfl⟩
        have hLl : L.length = hd.length := by rw [← hL, allL_len]
        rw [hL] at hrp
        have hkL : k < L.length := by omega
        have hkL' : (k : Int) < L.length := by omega
        have hfp := front_rep hrp hln1 (by omega) hkL
        obtain ⟨tl1, -, tl3⟩ := turn_rep hrp hln1 (by omega) hkL
        obtain ⟨a, r, har⟩ : ∃ a r, L[k] = a :: r := by
          cases hx : L[k] with
          | nil => rw [hx, hfr] at hfp; exact absurd (show y = -1 from hfp) (by omega)
          | cons a r => exact ⟨a, r, rfl⟩
        have htr := tl3 a r har
        have hSt : Hid (laidS l.length (L.set k (r ++ [a])) = turnS (l, hd, tl) k) := Lib.hid (laid_is (st := (l, hd, tl)) htr tl1)
        have hGd : Hid (GoodL l.length (L.set k (r ++ [a]))) := Lib.hid (by have h := rep_good htr; rw [tl1] at h; exact h)
        have hXn : L[k].length ≤ l.length := nodup_bd (hrp.nodup hkL) (fun a ha => hrp.bd hkL ha)
        have hrl : r.length ≤ 64 := by rw [har] at hXn; simp at hXn; omega
        have HLL := Lib.hid hLl
        clear hTS hask hc b1 b1' hcp hrep hno hyes hlk hrp hfr hfp tl1 tl3 htr hXn
        go_enter Try.func19, Try.ntmps19
        go_wp2_with fail
        refine (ck.out _ (by (repeat (first | (with_reducible exact Below.refl _ _) | ((with_reducible refine below_alloc ?_ ?_ _); · (first | omega | (simp; done) | (simp; omega))) | ((with_reducible refine below_setCell ?_ ?_ _); · (first | omega | (simp; done) | (simp; omega))) | (with_reducible refine Below.drew ?_) | (with_reducible refine below_drewN ?_ _) | ((with_reducible refine below_call (by assumption) ?_ ?_); · (first | omega | (simp; done) | (simp; omega))))))).mono ?_; rintro e w1 ⟨rfl, hb1⟩
        obtain ⟨hk1, hf1, hz1⟩ := bcellN (n := w.heap.size + 2) (by (try simp only [World.size_drew, World.size_alloc, World.size_setCell]); omega) hb1; have hz1_0 : w.heap.size < w1.heap.size := (by omega); have hz1_1 : w.heap.size + 1 < w1.heap.size := (by omega)
        go_wp2_with fail
        refine (c1 _ (by (repeat (first | (with_reducible exact Below.refl _ _) | ((with_reducible refine below_alloc ?_ ?_ _); · (first | omega | (simp; done) | (simp; omega))) | ((with_reducible refine below_setCell ?_ ?_ _); · (first | omega | (simp; done) | (simp; omega))) | (with_reducible refine Below.drew ?_) | (with_reducible refine below_drewN ?_ _) | ((with_reducible refine below_call (by assumption) ?_ ?_); · (first | omega | (simp; done) | (simp; omega))))))).mono ?_; rintro e w2 ⟨rfl, hb2⟩
        obtain ⟨hk2, hf2, hz2⟩ := bcellN (n := w.heap.size + 2) (by (try simp only [World.size_drew, World.size_alloc, World.size_setCell]); omega) hb2; have hz2_0 : w.heap.size < w2.heap.size := (by omega); have hz2_1 : w.heap.size + 1 < w2.heap.size := (by omega)
        have hB2 : Below w.heap.size w w2 := by (repeat (first | (with_reducible exact Below.refl _ _) | ((with_reducible refine below_alloc ?_ ?_ _); · (first | omega | (simp; done) | (simp; omega))) | ((with_reducible refine below_setCell ?_ ?_ _); · (first | omega | (simp; done) | (simp; omega))) | (with_reducible refine Below.drew ?_) | (with_reducible refine below_drewN ?_ _) | ((with_reducible refine below_call (by assumption) ?_ ?_); · (first | omega | (simp; done) | (simp; omega)))))
        have c0 := (hB2.cell (p := ⟨bn, on + k, none⟩) (World.block_lt_of_cell? _ _ HD.out)).trans HD.out
        go_wp2_with fail
        refine (ca.out _ (by (repeat (first | (with_reducible exact Below.refl _ _) | ((with_reducible refine below_alloc ?_ ?_ _); · (first | omega | (simp; done) | (simp; omega))) | ((with_reducible refine below_setCell ?_ ?_ _); · (first | omega | (simp; done) | (simp; omega))) | (with_reducible refine Below.drew ?_) | (with_reducible refine below_drewN ?_ _) | ((with_reducible refine below_call (by assumption) ?_ ?_); · (first | omega | (simp; done) | (simp; omega)))))) HR.out).mono ?_; rintro e w5 ⟨v, vs, rfl, hO, hb5⟩
        obtain ⟨hk5, hf5, hz5⟩ := bcellN (n := w.heap.size + 2) (by (try simp only [World.size_drew, World.size_alloc, World.size_setCell]); omega) hb5; have hz5_0 : w.heap.size < w5.heap.size := (by omega); have hz5_1 : w.heap.size + 1 < w5.heap.size := (by omega)
        have hs5 := hb5.size
        (try simp only [World.size_drew, World.size_alloc, World.size_setCell] at hs5)
        have hB5 : Below w.heap.size w w5 := by (repeat (first | (with_reducible exact Below.refl _ _) | ((with_reducible refine below_alloc ?_ ?_ _); · (first | omega | (simp; done) | (simp; omega))) | ((with_reducible refine below_setCell ?_ ?_ _); · (first | omega | (simp; done) | (simp; omega))) | (with_reducible refine Below.drew ?_) | (with_reducible refine below_drewN ?_ _) | ((with_reducible refine below_call (by assumption) ?_ ?_); · (first | omega | (simp; done) | (simp; omega)))))
        rw [hL] at hO
        replace hO := hO.mono (B' := w.heap.size + 2) (by (try simp only [World.size_drew, World.size_alloc, World.size_setCell]); omega)
        obtain ⟨gl, cl, hve⟩ := own_some hO.row (by omega)
        subst hve
        have hgl := own_lt hO.row
        obtain ⟨u, hu, hUo⟩ := hO.inn k hkL
        rw [har] at hUo
        obtain ⟨gu, uc, hue⟩ := own_some hUo (by simp)
        subst hue
        have hgu := own_lt hUo
        have hgne : gl ≠ gu := fun e => hO.off k _ gl hu (by rw [e]; rfl) rfl
        have cl0 := (hO.row.cellAt k (by omega)).trans hu
        have ca0 : w5.cell? ⟨gu, 0, none⟩ = some (.int .i64 a) := by have := hUo.cellAt 0 (by simp); rw [this]; rfl
        have hcap : r.length + 1 ≤ uc := by
          rcases hUo.2 with ⟨hv, _⟩ | ⟨g', cap', cur, hv, hB, hg, hle, _⟩
          · cases hv
          · cases hv; simpa using hle
        rw [List.length_cons] at cl0 hu
        obtain ⟨pp, hpp⟩ : ∃ pp : Option Addr, (if uc = 1 then some ⟨gu, 0, none⟩ else some ⟨gu, 1, none⟩) = pp := ⟨_, rfl⟩
        have HO := Lib.hid hO
        have HU := Lib.hid (show w5.ownsRow (w.heap.size + 2) 3 1 (.slice (some ⟨gu, 0, none⟩) (r.length + 1) uc) (r.length + 1) ((a :: r).map (Value.int .i64)) from hUo)
        have HUU := Lib.hid hu
        have hge : (1 : Int) ≤ (r.length : Int) + 1 := by omega
        have hge0 : (0 : Int) < (r.length : Int) + 1 := by omega
        have fgl := fun o => hO.row.frozenAt o
        clear hO hUo hu hL hLl c0 har
        go_wp2_with fail
        have hB5s : w.heap.size + 2 ≤ w5.heap.size := by omega
        go_region_law (refine step_turn rfl (.tmp 32) (.tmp 39) rfl (w.heap.size + 2) gu uc a r ((HU.out.call' (Below.drew (Below.refl _ _))).alloc _) pp hpp (by simp [Act.eval, Act.put]) w5.heap.size (by simp [Act.eval, Act.put]) (by simp [go_sem]) (by omega) ?_; intro v' w6 hvs hI6 hk6 hs6 hb6; obtain ⟨ao6, cp6, rfl⟩ := hvs; have hal : w5.heap.size ≤ w6.heap.size := (by simp at hs6; omega); have hgk := (hk6 gl (by simp; omega) hgne).2; have cl6 : w6.cell? ⟨gl, k, none⟩ = some (.slice (some ⟨gu, 0, none⟩) (r.length + 1) uc) := (World.cell?_of_block (w := w5) (a := ⟨gl, k, none⟩) (hgk.trans (Below.heap_alloc _ _ _ hgl.2))).trans cl0; have fl6 : w6.frozen? ⟨gl, k, none⟩ = false := (World.frozen?_of_block (w := w5) (a := ⟨gl, k, none⟩) (hgk.trans (Below.heap_alloc _ _ _ hgl.2))).trans (fgl k))
        all_goals
          have hA5 : Below w5.heap.size w5 (w5.drew.alloc (.cells #[.int .i64 a] 3)) := (Below.drew (Below.refl _ _)).alloc (Nat.le_refl _) _
          have e0 : ∀ b o, b < w.heap.size + 2 → w6.cell? ⟨b, o, none⟩ = w5.cell? ⟨b, o, none⟩ := fun b o h => (hb6.cell (p := ⟨b, o, none⟩) h).trans (hA5.cell (p := ⟨b, o, none⟩) (by show b < _; omega))
          have g0 : ∀ b o, b < w.heap.size + 2 → w6.frozen? ⟨b, o, none⟩ = w5.frozen? ⟨b, o, none⟩ := fun b o h => (hb6.frozen (p := ⟨b, o, none⟩) h).trans (hA5.frozen (p := ⟨b, o, none⟩) (by show b < _; omega))
          have HRD := Lib.hid (HO.out.put (w3 := w6) hkL HUU.out hal (fun q hq hne => ((hk6 q (by simp; omega) (fun e => hne (by rw [e]; rfl))).2).trans (hA5.block q hq)) hI6 (hk6 gl (by simp; omega) hgne).1)
          have hBr : Below w.heap.size w w6 := hB5.trans ((hA5.mono (by omega)).trans (hb6.mono (by omega)))
          have gne0 : gl ≠ w.heap.size := by omega
          have gne0' := gne0.symm
          have gne1 : gl ≠ w.heap.size + 1 := by omega
          have gne1' := gne1.symm
          refine gen_exitT (F := fun wt => ((wt.cell? ⟨w.heap.size + 1, 0, none⟩ = some (.slice none 0 0) ∧ wt.cell? ⟨w.heap.size + 1, 1, none⟩ = some (.slice none 0 0) ∧ wt.cell? ⟨w.heap.size + 1, 2, none⟩ = some (.slice none 0 0)) ∧ (wt.frozen? ⟨w.heap.size + 1, 0, none⟩ = false ∧ wt.frozen? ⟨w.heap.size + 1, 1, none⟩ = false ∧ wt.frozen? ⟨w.heap.size + 1, 2, none⟩ = false)) ∧ wt.cell? ⟨w.heap.size, 0, none⟩ = some (.slice pn l.length cn) ∧ RdII wt (w.heap.size + 2) gl cl (vs.set k (.slice ao6 (r.length + 1) cp6)) (L.set k (r ++ [a])) ∧ Below w.heap.size w wt ∧ w.heap.size + 2 ≤ wt.heap.size) ⟨⟨⟨by simp [go_sem, hk1, hz1_0, hz1_1, hk2, hz2_0, hz2_1, hk5, hz5_0, hz5_1, e0, g0, hf1, hf2, hf5, gne0, gne0', gne1, gne1'], by simp [go_sem, hk1, hz1_0, hz1_1, hk2, hz2_0, hz2_1, hk5, hz5_0, hz5_1, e0, g0, hf1, hf2, hf5, gne0, gne0', gne1, gne1'], by simp [go_sem, hk1, hz1_0, hz1_1, hk2, hz2_0, hz2_1, hk5, hz5_0, hz5_1, e0, g0, hf1, hf2, hf5, gne0, gne0', gne1, gne1']⟩, by simp [go_sem, hk1, hz1_0, hz1_1, hk2, hz2_0, hz2_1, hk5, hz5_0, hz5_1, e0, g0, hf1, hf2, hf5, gne0, gne0', gne1, gne1'], by simp [go_sem, hk1, hz1_0, hz1_1, hk2, hz2_0, hz2_1, hk5, hz5_0, hz5_1, e0, g0, hf1, hf2, hf5, gne0, gne0', gne1, gne1'], by simp [go_sem, hk1, hz1_0, hz1_1, hk2, hz2_0, hz2_1, hk5, hz5_0, hz5_1, e0, g0, hf1, hf2, hf5, gne0, gne0', gne1, gne1']⟩, by simp [go_sem, hk1, hz1_0, hz1_1, hk2, hz2_0, hz2_1, hk5, hz5_0, hz5_1, e0, g0, hf1, hf2, hf5, gne0, gne0', gne1, gne1'], HRD.out, below_at hBr _ (by omega), by simp; omega⟩ (fun W hF => ?_)
          obtain ⟨⟨⟨r0, r1, r2⟩, ⟨z0, z1, z2⟩⟩, q0, hRD, hB, hz⟩ := hF
          clear hk1 hf1 hz1 hz1_0 hz1_1 hb1 hk2 hf2 hz2 hz2_0 hz2_1 hb2 hk5 hf5 hz5 hz5_0 hz5_1 hb5 HRD e0 g0 hBr hB5 hB2 hk6 hI6 hb6 hs6 hal hgk cl6 fl6 hA5 cl0 ca0 fgl
          have hRR := hRD.reads
          rw [List.length_set] at hRR
          go_wp2_with fail
          refine (laid_any l.length _ _ W hRR hGd.out (by omega) (by have := HLL.out; rw [List.length_set]; omega)).mono ?_; rintro e w90 ⟨un, uh, ut, rfl, hI, hfr, hb90⟩
          have hs90 := hb90.size
          have c90 := fun b o (h : b < w.heap.size + 2) => hb90.cell (p := ⟨b, o, none⟩) (by show b < _; omega)
          have f90 := fun b o (h : b < w.heap.size + 2) => hb90.frozen (p := ⟨b, o, none⟩) (by show b < _; omega)
          replace r0 := (c90 _ 0 (by omega)).trans r0
          replace r1 := (c90 _ 1 (by omega)).trans r1
          replace r2 := (c90 _ 2 (by omega)).trans r2
          replace z0 := (f90 _ 0 (by omega)).trans z0
          replace z1 := (f90 _ 1 (by omega)).trans z1
          replace z2 := (f90 _ 2 (by omega)).trans z2
          have hB90 := hB.trans (hb90.mono (by omega))
          rw [hSt.out] at hI
          have HI := Lib.hid hI
          have HF9 := Lib.hid (hfr.mono (B' := w.heap.size + 2) hz)
          obtain ⟨⟨p9, n9, rfl, -⟩, ⟨p8, n8, rfl, -⟩, ⟨p7, n7, rfl, -⟩⟩ := id hI
          clear hI hfr hb90 c90 f90 hRR hRD
          go_wp2_with fail
          refine bodyPost_ret (v := .agg #[.slice p9 (turnS (l, hd, tl) k).1.length n9, .slice p8 (turnS (l, hd, tl) k).2.1.length n8, .slice p7 (turnS (l, hd, tl) k).2.2.length n7]) (by simp [results, Try.results19, go_sem, r0, r1, r2, z0, z1, z2]) rfl ⟨_, _, _, rfl, IsLS.from (IsLS.from (IsLS.from HI.out HF9.out (by omega)) HF9.out (by omega)) HF9.out (by omega), ?_⟩
          (repeat (first | (with_reducible exact Below.refl _ _) | ((with_reducible refine below_alloc ?_ ?_ _); · (first | omega | (simp; done) | (simp; omega))) | ((with_reducible refine below_setCell ?_ ?_ _); · (first | omega | (simp; done) | (simp; omega))) | (with_reducible refine Below.drew ?_) | (with_reducible refine below_drewN ?_ _) | ((with_reducible refine below_call (by assumption) ?_ ?_); · (first | omega | (simp; done) | (simp; omega)))))
  · have hf : Hid (turnS (l, hd, tl) i = (l, hd, tl)) := Lib.hid (by rw [hTS, if_pos (hno (by rw [hask, decide_eq_false hc]; rfl))])
    have hc1 : (chkL (l, hd, tl) != 0) = true := by simpa using hc
    clear hTS hask hc hcp hrep hno hyes
    go_enter Try.func19, Try.ntmps19
    go_wp2_with fail
    refine (ck.out _ (by (repeat (first | (with_reducible exact Below.refl _ _) | ((with_reducible refine below_alloc ?_ ?_ _); · (first | omega | (simp; done) | (simp; omega))) | ((with_reducible refine below_setCell ?_ ?_ _); · (first | omega | (simp; done) | (simp; omega))) | (with_reducible refine Below.drew ?_) | (with_reducible refine below_drewN ?_ _) | ((with_reducible refine below_call (by assumption) ?_ ?_); · (first | omega | (simp; done) | (simp; omega))))))).mono ?_; rintro e w1 ⟨rfl, hb1⟩
    obtain ⟨hk1, hf1, hz1⟩ := bcellN (n := w.heap.size + 2) (by (try simp only [World.size_drew, World.size_alloc, World.size_setCell]); omega) hb1; have hz1_0 : w.heap.size < w1.heap.size := (by omega); have hz1_1 : w.heap.size + 1 < w1.heap.size := (by omega)
    go_wp2_with fail
    refine bodyPost_ret (v := .agg #[.slice pn l.length cn, .slice ph hd.length ch, .slice pt tl.length ct]) (by simp [results, Try.results19, go_sem, hk1, hz1_0, hz1_1]) rfl ⟨_, _, _, rfl, by rw [hf.out]; exact HV.out.call (by (repeat (first | (with_reducible exact Below.refl _ _) | ((with_reducible refine below_alloc ?_ ?_ _); · (first | omega | (simp; done) | (simp; omega))) | ((with_reducible refine below_setCell ?_ ?_ _); · (first | omega | (simp; done) | (simp; omega))) | (with_reducible refine Below.drew ?_) | (with_reducible refine below_drewN ?_ _) | ((with_reducible refine below_call (by assumption) ?_ ?_); · (first | omega | (simp; done) | (simp; omega)))))), ?_⟩
    (repeat (first | (with_reducible exact Below.refl _ _) | ((with_reducible refine below_alloc ?_ ?_ _); · (first | omega | (simp; done) | (simp; omega))) | ((with_reducible refine below_setCell ?_ ?_ _); · (first | omega | (simp; done) | (simp; omega))) | (with_reducible refine Below.drew ?_) | (with_reducible refine below_drewN ?_ _) | ((with_reducible refine below_call (by assumption) ?_ ?_); · (first | omega | (simp; done) | (simp; omega)))))
end Go.Proofs.Ytkcenadenmkgnaa
