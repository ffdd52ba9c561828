/- The document's Unlink. -/
import Derived.Test.YtkcenadenmkgnaaC6B
import Derived.Test.YtkcenadenmkgnaaC8K
namespace Go.Proofs.Ytkcenadenmkgnaa
open Go.RowKit
set_option linter.unusedVariables false
set_option linter.unusedSimpArgs false

theorem filter_out {X : List Int} {x : Int} (hn : X.Nodup) (hm : x ∈ X) : ∃ A B, X = A ++ x :: B ∧ X.filter (fun r => r != x) = A ++ B := by
  obtain ⟨A, B, e⟩ := List.append_of_mem hm
  refine ⟨A, B, e, ?_⟩
  subst e
  rw [List.nodup_append] at hn
  obtain ⟨h1, h2, h3⟩ := hn
  rw [List.nodup_cons] at h2
  have hA : A.filter (fun r => r != x) = A := List.filter_eq_self.2 fun r hr => by simpa using h3 r hr x (by simp)
  have hB : B.filter (fun r => r != x) = B := List.filter_eq_self.2 fun r hr => by
    have : r ≠ x := fun e => h2.1 (e ▸ hr)
    simpa using this
  rw [List.filter_append, List.filter_cons, hA, hB]
  simp
theorem filter_step (X : List Int) (x : Int) (k : Nat) (h : k < X.length) : (X.take (k + 1)).filter (fun r => r != x) = (X.take k).filter (fun r => r != x) ++ if X[k] = x then [] else [X[k]] := by
  rw [List.take_succ_eq_append_getElem h, List.filter_append]
  by_cases e : X[k] = x <;> simp [e]
theorem gen_calls2 {P : Program} {f : Nat} {args : Array Value} {W : World} {Q : Ending → World → Prop} (F : World → Prop) (hF : F W) (h : ∀ wt, F wt → Calls P f args wt Q) : Calls P f args W Q := h W hF

set_option maxRecDepth 100000 in
set_option maxHeartbeats 8000000 in
theorem refunl_any (vn vh vt : Value) (st : LSt) (a : Int) (w : World) (hv : IsLS w vn vh vt st) (h1 : st.1.length ≤ 1048576) (h2 : st.2.1.length ≤ 1048576) (h3 : st.2.2.length ≤ 1048576) :
    Calls Try.prog 13 #[.agg #[vn, vh, vt], .int .i64 a] w fun e w' => ∃ un uh ut, e = .returned (.tuple #[.agg #[un, uh, ut], .int .i64 (unlE st a)]) ∧ IsLS w' un uh ut (unlS st a) ∧ Below w.heap.size w w' := by
  have HV := Lib.hid hv
  have ck := Lib.hid (fun W (h : Below w.heap.size w W) => refchk_any vn vh vt st W (HV.out.call h) h1 h2 h3)
  have ca := Lib.hid (fun W (h : Below w.heap.size w W) hR => refall_any vn vh vt st W (HV.out.call h) h1 h2 hR)
  have hcp := fun h => chkL_parts (st := st) h
  have hrep := fun h => rep_chk (st := st) h
  obtain ⟨l, hd, tl⟩ := st
  replace h1 : l.length ≤ 1048576 := h1
  replace h2 : hd.length ≤ 1048576 := h2
  replace h3 : tl.length ≤ 1048576 := h3
  have h1' : (l.length : Int) ≤ 1048576 := by omega
  have hwl : IntKind.i64.wrap ((l.length : Int) - 1) = (l.length : Int) - 1 := IntWalk.i64_in _ (by omega)
  have hwl2 : wrap64 ((l.length : Int) - 1) = (l.length : Int) - 1 := IntWalk.wrap64_in _ ⟨by omega, by omega⟩
  obtain ⟨⟨pn, cn, rfl, hn⟩, ⟨ph, ch, rfl, -⟩, ⟨pt, ct, rfl, -⟩⟩ := hv
  have HN := Lib.hid hn
  clear hn
  have c2 := fun W => in_any a 0 ((l.length : Int) - 1) W
  have hE : unlE (l, hd, tl) a = if chkL (l, hd, tl) ≠ 0 then chkL (l, hd, tl) else if inB a 0 ((l.length : Int) - 1) = false then 8 else if (nodAt l a.toNat).1 = -1 then 6 else 0 := rfl
  have hS : unlS (l, hd, tl) a = if unlE (l, hd, tl) a = 0 then outP (l, hd, tl) a.toNat else (l, hd, tl) := rfl
  by_cases hc : chkL (l, hd, tl) = 0
  · rw [hc] at ck
    cases b2 : inB a 0 ((l.length : Int) - 1)
    · rw [b2] at c2
      have hf : Hid (unlE (l, hd, tl) a = 8 ∧ unlS (l, hd, tl) a = (l, hd, tl)) := by
        have e : unlE (l, hd, tl) a = 8 := by rw [hE, if_neg (by simp [hc]), if_pos b2]
        exact Lib.hid ⟨e, by rw [hS, e]; rfl⟩
      clear hE hS hc b2 hcp hrep
      go_enter Try.func13, Try.ntmps13
      go_wp2_with fail
      refine (ck.out _ (by (repeat (first | (with_reducible exact Below.refl _ _) | ((with_reducible refine below_alloc ?_ ?_ _); · (first | omega | (simp; done) | (simp; omega))) | ((with_reducible refine below_setCell ?_ ?_ _); · (first | omega | (simp; done) | (simp; omega))) | (with_reducible refine Below.drew ?_) | (with_reducible refine below_drewN ?_ _) | ((with_reducible refine below_call (by assumption) ?_ ?_); · (first | omega | (simp; done) | (simp; omega))))))).mono ?_; rintro e w1 ⟨rfl, hb1⟩
      obtain ⟨hk1, hf1, hz1⟩ := bcellN (n := w.heap.size + 2) (by (try simp only [World.size_drew, World.size_alloc, World.size_setCell]); omega) hb1; have hz1_0 : w.heap.size < w1.heap.size := (by omega); have hz1_1 : w.heap.size + 1 < w1.heap.size := (by omega)
      go_wp2_with fail
      refine (c2 _).mono ?_; rintro e w3 ⟨rfl, hb3⟩
      obtain ⟨hk3, hf3, hz3⟩ := bcellN (n := w.heap.size + 2) (by (try simp only [World.size_drew, World.size_alloc, World.size_setCell]); omega) hb3; have hz3_0 : w.heap.size < w3.heap.size := (by omega); have hz3_1 : w.heap.size + 1 < w3.heap.size := (by omega)
      go_wp2_with fail
      refine bodyPost_ret (v := .tuple #[.agg #[.slice pn l.length cn, .slice ph hd.length ch, .slice pt tl.length ct], .int .i64 8]) (by simp [results, Try.results13, go_sem, hk1, hz1_0, hz1_1, hk3, hz3_0, hz3_1]) rfl ⟨_, _, _, by rw [hf.out.1], by rw [hf.out.2]; exact HV.out.call (by (repeat (first | (with_reducible exact Below.refl _ _) | ((with_reducible refine below_alloc ?_ ?_ _); · (first | omega | (simp; done) | (simp; omega))) | ((with_reducible refine below_setCell ?_ ?_ _); · (first | omega | (simp; done) | (simp; omega))) | (with_reducible refine Below.drew ?_) | (with_reducible refine below_drewN ?_ _) | ((with_reducible refine below_call (by assumption) ?_ ?_); · (first | omega | (simp; done) | (simp; omega)))))), ?_⟩
      (repeat (first | (with_reducible exact Below.refl _ _) | ((with_reducible refine below_alloc ?_ ?_ _); · (first | omega | (simp; done) | (simp; omega))) | ((with_reducible refine below_setCell ?_ ?_ _); · (first | omega | (simp; done) | (simp; omega))) | (with_reducible refine Below.drew ?_) | (with_reducible refine below_drewN ?_ _) | ((with_reducible refine below_call (by assumption) ?_ ?_); · (first | omega | (simp; done) | (simp; omega)))))
    · rw [b2] at c2
      have b2' := b2
      rw [inB_iff] at b2'
      obtain ⟨x, rfl⟩ : ∃ x : Nat, a = x := ⟨a.toNat, by omega⟩
      have hxl : x < l.length := by omega
      have hxl' : (x : Int) < l.length := by omega
      have hx0 : (0 : Int) ≤ x := by omega
      obtain ⟨bn, on, rfl, d0, d1, d2⟩ := HN.out x hxl
      have hna := nodAt_lt l x hxl
      obtain ⟨y, hy⟩ : ∃ y, l[x].1 = y := ⟨_, rfl⟩
      rw [hy] at d0
      have hny : (nodAt l x).1 = y := by rw [hna]; exact hy
      have HD := Lib.hid d0
      obtain ⟨hln, hkn, htl, hR, -, -⟩ := hcp hc
      have hlk := (links_nodAt hR hxl).1
      replace hlk : -1 ≤ (nodAt l x).1 ∧ (nodAt l x).1 < hd.length := hlk
      rw [hny] at hlk
      rw [Int.toNat_natCast, hny] at hE
      rw [Int.toNat_natCast] at hS
      have HR := Lib.hid hR
      have hrp := hrep hc
      have hln1 : 1 ≤ l.length ∧ l.length ≤ 64 := hln
      have hkn1 : 1 ≤ hd.length ∧ hd.length ≤ 8 := hkn
      clear d0 d1 d2 hna hy hR htl hln hkn
      by_cases hy1 : y = -1
      · subst hy1
        have hf : Hid (unlE (l, hd, tl) x = 6 ∧ unlS (l, hd, tl) x = (l, hd, tl)) := by
          have e : unlE (l, hd, tl) x = 6 := by rw [hE, if_neg (by simp [hc]), if_neg (by simp [b2]), if_pos rfl]
          exact Lib.hid ⟨e, by rw [hS, e]; rfl⟩
        clear hE hS hc b2 b2' hlk hny hrp hcp hrep
        go_enter Try.func13, Try.ntmps13
        go_wp2_with fail
        refine (ck.out _ (by (repeat (first | (with_reducible exact Below.refl _ _) | ((with_reducible refine below_alloc ?_ ?_ _); · (first | omega | (simp; done) | (simp; omega))) | ((with_reducible refine below_setCell ?_ ?_ _); · (first | omega | (simp; done) | (simp; omega))) | (with_reducible refine Below.drew ?_) | (with_reducible refine below_drewN ?_ _) | ((with_reducible refine below_call (by assumption) ?_ ?_); · (first | omega | (simp; done) | (simp; omega))))))).mono ?_; rintro e w1 ⟨rfl, hb1⟩
        obtain ⟨hk1, hf1, hz1⟩ := bcellN (n := w.heap.size + 2) (by (try simp only [World.size_drew, World.size_alloc, World.size_setCell]); omega) hb1; have hz1_0 : w.heap.size < w1.heap.size := (by omega); have hz1_1 : w.heap.size + 1 < w1.heap.size := (by omega)
        go_wp2_with fail
        refine (c2 _).mono ?_; rintro e w3 ⟨rfl, hb3⟩
        obtain ⟨hk3, hf3, hz3⟩ := bcellN (n := w.heap.size + 2) (by (try simp only [World.size_drew, World.size_alloc, World.size_setCell]); omega) hb3; have hz3_0 : w.heap.size < w3.heap.size := (by omega); have hz3_1 : w.heap.size + 1 < w3.heap.size := (by omega)
        have hB3 : Below w.heap.size w w3 := by (repeat (first | (with_reducible exact Below.refl _ _) | ((with_reducible refine below_alloc ?_ ?_ _); · (first | omega | (simp; done) | (simp; omega))) | ((with_reducible refine below_setCell ?_ ?_ _); · (first | omega | (simp; done) | (simp; omega))) | (with_reducible refine Below.drew ?_) | (with_reducible refine below_drewN ?_ _) | ((with_reducible refine below_call (by assumption) ?_ ?_); · (first | omega | (simp; done) | (simp; omega)))))
        have c0 := (hB3.cell (p := ⟨bn, on + x * 3, none⟩) (World.block_lt_of_cell? _ _ HD.out)).trans HD.out
        go_wp2_with fail
        refine bodyPost_ret (v := .tuple #[.agg #[.slice (some ⟨bn, on, none⟩) l.length cn, .slice ph hd.length ch, .slice pt tl.length ct], .int .i64 6]) (by simp [results, Try.results13, go_sem, hk1, hz1_0, hz1_1, hk3, hz3_0, hz3_1]) rfl ⟨_, _, _, by rw [hf.out.1], by rw [hf.out.2]; exact HV.out.call (by (repeat (first | (with_reducible exact Below.refl _ _) | ((with_reducible refine below_alloc ?_ ?_ _); · (first | omega | (simp; done) | (simp; omega))) | ((with_reducible refine below_setCell ?_ ?_ _); · (first | omega | (simp; done) | (simp; omega))) | (with_reducible refine Below.drew ?_) | (with_reducible refine below_drewN ?_ _) | ((with_reducible refine below_call (by assumption) ?_ ?_); · (first | omega | (simp; done) | (simp; omega)))))), ?_⟩
        (repeat (first | (with_reducible exact Below.refl _ _) | ((with_reducible refine below_alloc ?_ ?_ _); · (first | omega | (simp; done) | (simp; omega))) | ((with_reducible refine below_setCell ?_ ?_ _); · (first | omega | (simp; done) | (simp; omega))) | (with_reducible refine Below.drew ?_) | (with_reducible refine below_drewN ?_ _) | ((with_reducible refine below_call (by assumption) ?_ ?_); · (first | omega | (simp; done) | (simp; omega)))))
      · have hf : Hid (unlE (l, hd, tl) x = 0 ∧ unlS (l, hd, tl) x = outP (l, hd, tl) x) := by
          have e : unlE (l, hd, tl) x = 0 := by rw [hE, if_neg (by simp [hc]), if_neg (by simp [b2]), if_neg hy1]
          exact Lib.hid ⟨e, by rw [hS, if_pos e]⟩
        obtain ⟨k, rfl⟩ : ∃ k : Nat, y = k := ⟨y.toNat, by omega⟩
        have hk0 : ¬ (k : Int) < 0 := by omega
        obtain ⟨L, hL⟩ : ∃ L, allL (l, hd, tl) = L := ⟨_, rfl⟩
        have hLl : L.length = hd.length := by rw [← hL, allL_len]
        rw [hL] at hrp
        have hkL : k < L.length := by omega
        have hkL' : (k : Int) < L.length := by omega
        have hin : (x : Int) ∈ L[k] := (wh_mem hrp (m := x) hxl hkL).1 (by unfold wh; show (nodAt l x).1 + 1 = _; rw [hny])
        obtain ⟨A, B, hAB, hfl⟩ := filter_out (hrp.nodup hkL) hin
        have hout := rep_out hrp hkL hAB
        rw [← hfl] at hout
        have hSt : Hid (laidS l.length (L.set k (L[k].filter fun r => r != (x : Int))) = outP (l, hd, tl) x) := Lib.hid (laid_is (st := (l, hd, tl)) hout (outP_len _ _).1)
        have hGd : Hid (GoodL l.length (L.set k (L[k].filter fun r => r != (x : Int)))) := Lib.hid (by have h := rep_good hout; rw [(outP_len _ _).1] at h; exact h)
        have hXn : L[k].length ≤ l.length := nodup_bd (hrp.nodup hkL) (fun a ha => hrp.bd hkL ha)
        have HLL := Lib.hid hLl
        clear hE hS hc b2 b2' hcp hrep hlk hny hrp hout hfl hAB hin hy1
        obtain ⟨i1, gi, gj0, gj1, gj2⟩ := info_parts info_int
        go_enter Try.func13, Try.ntmps13
        go_wp2_with fail
        refine (ck.out _ (by (repeat (first | (with_reducible exact Below.refl _ _) | ((with_reducible refine below_alloc ?_ ?_ _); · (first | omega | (simp; done) | (simp; omega))) | ((with_reducible refine below_setCell ?_ ?_ _); · (first | omega | (simp; done) | (simp; omega))) | (with_reducible refine Below.drew ?_) | (with_reducible refine below_drewN ?_ _) | ((with_reducible refine below_call (by assumption) ?_ ?_); · (first | omega | (simp; done) | (simp; omega))))))).mono ?_; rintro e w1 ⟨rfl, hb1⟩
        obtain ⟨hk1, hf1, hz1⟩ := bcellN (n := w.heap.size + 2) (by (try simp only [World.size_drew, World.size_alloc, World.size_setCell]); omega) hb1; have hz1_0 : w.heap.size < w1.heap.size := (by omega); have hz1_1 : w.heap.size + 1 < w1.heap.size := (by omega)
        go_wp2_with fail
        refine (c2 _).mono ?_; rintro e w3 ⟨rfl, hb3⟩
        obtain ⟨hk3, hf3, hz3⟩ := bcellN (n := w.heap.size + 2) (by (try simp only [World.size_drew, World.size_alloc, World.size_setCell]); omega) hb3; have hz3_0 : w.heap.size < w3.heap.size := (by omega); have hz3_1 : w.heap.size + 1 < w3.heap.size := (by omega)
        have hB3 : Below w.heap.size w w3 := by (repeat (first | (with_reducible exact Below.refl _ _) | ((with_reducible refine below_alloc ?_ ?_ _); · (first | omega | (simp; done) | (simp; omega))) | ((with_reducible refine below_setCell ?_ ?_ _); · (first | omega | (simp; done) | (simp; omega))) | (with_reducible refine Below.drew ?_) | (with_reducible refine below_drewN ?_ _) | ((with_reducible refine below_call (by assumption) ?_ ?_); · (first | omega | (simp; done) | (simp; omega)))))
        have c0 := (hB3.cell (p := ⟨bn, on + x * 3, none⟩) (World.block_lt_of_cell? _ _ HD.out)).trans HD.out
        go_wp2_with fail
        refine (ca.out _ (by (repeat (first | (with_reducible exact Below.refl _ _) | ((with_reducible refine below_alloc ?_ ?_ _); · (first | omega | (simp; done) | (simp; omega))) | ((with_reducible refine below_setCell ?_ ?_ _); · (first | omega | (simp; done) | (simp; omega))) | (with_reducible refine Below.drew ?_) | (with_reducible refine below_drewN ?_ _) | ((with_reducible refine below_call (by assumption) ?_ ?_); · (first | omega | (simp; done) | (simp; omega)))))) HR.out).mono ?_; rintro e w5 ⟨v, vs, rfl, hO, hb5⟩
        obtain ⟨hk5, hf5, hz5⟩ := bcellN (n := w.heap.size + 2) (by (try simp only [World.size_drew, World.size_alloc, World.size_setCell]); omega) hb5; have hz5_0 : w.heap.size < w5.heap.size := (by omega); have hz5_1 : w.heap.size + 1 < w5.heap.size := (by omega)
        have hs5 := hb5.size
        (try simp only [World.size_drew, World.size_alloc, World.size_setCell] at hs5)
        have hB5 : Below w.heap.size w w5 := by (repeat (first | (with_reducible exact Below.refl _ _) | ((with_reducible refine below_alloc ?_ ?_ _); · (first | omega | (simp; done) | (simp; omega))) | ((with_reducible refine below_setCell ?_ ?_ _); · (first | omega | (simp; done) | (simp; omega))) | (with_reducible refine Below.drew ?_) | (with_reducible refine below_drewN ?_ _) | ((with_reducible refine below_call (by assumption) ?_ ?_); · (first | omega | (simp; done) | (simp; omega)))))
        have c5 := (hB5.cell (p := ⟨bn, on + x * 3, none⟩) (World.block_lt_of_cell? _ _ HD.out)).trans HD.out
        rw [hL] at hO
        replace hO := hO.mono (B' := w.heap.size + 2) (by (try simp only [World.size_drew, World.size_alloc, World.size_setCell]); omega)
        obtain ⟨gl, cl, hve⟩ := own_some hO.row (by omega)
        subst hve
        have hgl := own_lt hO.row
        obtain ⟨u, hu, hUo⟩ := hO.inn k hkL
        obtain ⟨ua, uc, hue⟩ := rowI_shape hUo
        obtain ⟨X, hX⟩ : ∃ X, L[k] = X := ⟨_, rfl⟩
        rw [hX] at hUo hue hXn hSt hGd
        subst hue
        have cl0 := (hO.row.cellAt k (by omega)).trans hu
        have HO := Lib.hid hO
        have HU := Lib.hid hUo.reads
        have HUU := Lib.hid hu
        have HL2 := Lib.hid hL
        clear hO hUo hu hL hX hLl c0
        go_wp2_with fail
        go_loopw [8, 10] (fun lv iv wr => ∃ k' : Nat, iv = .int .i64 k' ∧ k' ≤ X.length ∧ OwnI wr w5.heap.size lv ((X.take k').filter fun r => r != (x : Int)) ∧ Below w5.heap.size w5 wr) (fun _ iv _ => X.length - (intOf iv).toNat)
        case atStart => exact ⟨0, rfl, Nat.zero_le _, OwnI.nil _ _, Below.refl _ _⟩
        case round =>
          obtain ⟨k', rfl, hk', hown, hB⟩ := hrel
          by_cases hlt : k' < X.length
          · have hlt' : (k' : Int) < X.length := by omega
            obtain ⟨p', c', hv', hrd⟩ := HU.out
            cases hv'
            obtain ⟨b1, o1, rfl, da⟩ := hrd k' hlt
            have hfs := filter_step X x k' hlt
            obtain ⟨z, hz⟩ : ∃ z, X[k'] = z := ⟨_, rfl⟩
            rw [hz] at da hfs
            have ea := (hB.cell (p := ⟨b1, o1 + k', none⟩) (World.block_lt_of_cell? _ _ da)).trans da
            obtain ⟨fo, fc, hve⟩ := rowI_shape hown
            have hfl : ((X.take k').filter fun r => r != (x : Int)).length ≤ k' := by
              have := List.length_filter_le (fun r => r != (x : Int)) (X.take k')
              rw [List.length_take] at this; omega
            obtain ⟨F, hF⟩ : ∃ F, ((X.take k').filter fun r => r != (x : Int)) = F := ⟨_, rfl⟩
            rw [hF] at hown hve hfs hfl
            subst hve
            have HW := Lib.hid hown
            have HFS := Lib.hid hfs
            have hzr := hB.size
            clear hown hfs da hz hF hrd
            by_cases he : z = (x : Int)
            · subst he
              go_wp2_with fail
              go_roundw
              case rel => exact ⟨k' + 1, by go_num, hlt, by rw [HFS.out, if_pos rfl, List.append_nil]; exact HW.out, hB⟩
              case measure => first | (simp [intOf]; done) | (simp [intOf]; omega)
            · have he' : (z == (x : Int)) = false := by simpa using he
              have he2 : (z != (x : Int)) = true := by simpa using he
              have HE := Lib.hid he
              clear he
              go_wp2_with (at_builtin; refine wpList_append_own _ rfl _ _ 23 rfl w5.heap.size 3 i1 (.int .i64 0) 1 8 Try.underlying23 gi gj0 gj1 gj2 rfl (by decide) _ F.length (F.map (Value.int .i64)) rfl (World.ownsRow.alloc HW.out _) ⟨wr.heap.size, 0, none⟩ 1 1 [Value.int .i64 z] rfl rfl (cell_one_new _ _ _) (by simp [Value.oneCell']) (by unfold maxLen; omega) (by omega) (by simp; omega) ?_; intro v' w6 hown' hgr _)
              go_roundw
              case rel =>
                have hb6 : Below w5.heap.size wr w6 := ((Below.refl _ _).alloc hzr _).grown hgr (by simp; omega) (fun q hq => (World.ownsRow.lt HW.out q hq).1)
                refine ⟨k' + 1, by go_num, hlt, ?_, hB.trans hb6⟩
                rw [HFS.out, if_neg HE.out]
                show World.ownsRow _ _ _ _ _ _ _
                rw [List.length_append, List.map_append]; exact hown'
              case measure => first | (simp [intOf]; done) | (simp [intOf]; omega)
          · obtain rfl : k' = X.length := by omega
            rw [List.take_length] at hown
            obtain ⟨va, vc, hve⟩ := rowI_shape hown
            subst hve
            have hzr := hB.size
            have hnot : NotAt gl (.slice va (X.filter fun r => r != (x : Int)).length vc) := own_notAt (n := 0) hown (fun q hq e => by have := (World.ownsRow.lt hown q hq).1; omega)
            have HRD := Lib.hid (HO.out.put (w3 := wr) hkL HUU.out hzr (fun q hq _ => hB.block q hq) hown.reads hnot)
            have cx := (hB.cell (p := ⟨bn, on + x * 3, none⟩) (World.block_lt_of_cell? _ _ c5)).trans c5
            have hBr : Below w.heap.size w wr := hB5.trans (hB.mono (by omega))
            have cgl := (hB.cell (p := ⟨gl, k, none⟩) (World.block_lt_of_cell? _ _ cl0)).trans cl0
            have fgl := fun o => (HO.out.row.call' hB).frozenAt o
            have e0 : ∀ b o, b < w.heap.size + 2 → wr.cell? ⟨b, o, none⟩ = w5.cell? ⟨b, o, none⟩ := fun b o h => hB.cell (p := ⟨b, o, none⟩) (by show b < _; omega)
            have g0 : ∀ b o, b < w.heap.size + 2 → wr.frozen? ⟨b, o, none⟩ = w5.frozen? ⟨b, o, none⟩ := fun b o h => hB.frozen (p := ⟨b, o, none⟩) (by show b < _; omega)
            have gne0 : gl ≠ w.heap.size := by omega
            have gne0' := gne0.symm
            have gne1 : gl ≠ w.heap.size + 1 := by omega
            have gne1' := gne1.symm
            clear hown hnot hB cl0 c5
            go_wp2_with fail
            refine gen_calls2 (F := fun wt => ((wt.cell? ⟨w.heap.size + 1, 0, none⟩ = some (.slice none 0 0) ∧ wt.cell? ⟨w.heap.size + 1, 1, none⟩ = some (.slice none 0 0) ∧ wt.cell? ⟨w.heap.size + 1, 2, none⟩ = some (.slice none 0 0)) ∧ (wt.frozen? ⟨w.heap.size + 1, 0, none⟩ = false ∧ wt.frozen? ⟨w.heap.size + 1, 1, none⟩ = false ∧ wt.frozen? ⟨w.heap.size + 1, 2, none⟩ = false)) ∧ RdII wt (w.heap.size + 2) gl cl (vs.set k (.slice va (X.filter fun r => r != (x : Int)).length vc)) (L.set k (X.filter fun r => r != (x : Int))) ∧ Below w.heap.size w wt ∧ w.heap.size + 2 ≤ wt.heap.size) ⟨⟨⟨by simp [go_sem, hk1, hz1_0, hz1_1, hk3, hz3_0, hz3_1, hk5, hz5_0, hz5_1, e0, g0, hf1, hf3, hf5, gne0, gne0', gne1, gne1'], by simp [go_sem, hk1, hz1_0, hz1_1, hk3, hz3_0, hz3_1, hk5, hz5_0, hz5_1, e0, g0, hf1, hf3, hf5, gne0, gne0', gne1, gne1'], by simp [go_sem, hk1, hz1_0, hz1_1, hk3, hz3_0, hz3_1, hk5, hz5_0, hz5_1, e0, g0, hf1, hf3, hf5, gne0, gne0', gne1, gne1']⟩, by simp [go_sem, hk1, hz1_0, hz1_1, hk3, hz3_0, hz3_1, hk5, hz5_0, hz5_1, e0, g0, hf1, hf3, hf5, gne0, gne0', gne1, gne1'], by simp [go_sem, hk1, hz1_0, hz1_1, hk3, hz3_0, hz3_1, hk5, hz5_0, hz5_1, e0, g0, hf1, hf3, hf5, gne0, gne0', gne1, gne1'], by simp [go_sem, hk1, hz1_0, hz1_1, hk3, hz3_0, hz3_1, hk5, hz5_0, hz5_1, e0, g0, hf1, hf3, hf5, gne0, gne0', gne1, gne1']⟩, HRD.out, below_at hBr _ (by omega), by simp; omega⟩ (fun W hF => ?_)
            obtain ⟨⟨⟨r0, r1, r2⟩, ⟨z0, z1, z2⟩⟩, hRD, hB, hz⟩ := hF
            clear hk1 hf1 hz1 hz1_0 hz1_1 hb1 hk3 hf3 hz3 hz3_0 hz3_1 hb3 hk5 hf5 hz5 hz5_0 hz5_1 hb5 HRD e0 g0 cx cgl fgl hBr hB5 hB3
            have hRR := hRD.reads
            rw [List.length_set] at hRR
            refine (laid_any l.length _ _ W hRR hGd.out (by omega) (by have := HLL.out; rw [List.length_set]; omega)).mono ?_; rintro e w90 ⟨un, uh, ut, rfl, hI, hfr, hb90⟩
            have hs90 := hb90.size
            have c90 := fun b o (h : b < w.heap.size + 2) => hb90.cell (p := ⟨b, o, none⟩) (by show b < _; omega)
            have f90 := fun b o (h : b < w.heap.size + 2) => hb90.frozen (p := ⟨b, o, none⟩) (by show b < _; omega)
            replace r0 := (c90 _ 0 (by omega)).trans r0
            replace r1 := (c90 _ 1 (by omega)).trans r1
            replace r2 := (c90 _ 2 (by omega)).trans r2
            replace z0 := (f90 _ 0 (by omega)).trans z0
            replace z1 := (f90 _ 1 (by omega)).trans z1
            replace z2 := (f90 _ 2 (by omega)).trans z2
            have hB90 := hB.trans (hb90.mono (by omega))
            rw [hSt.out] at hI
            have HI := Lib.hid hI
            have HF9 := Lib.hid (hfr.mono (B' := w.heap.size + 2) hz)
            obtain ⟨⟨p9, n9, rfl, -⟩, ⟨p8, n8, rfl, -⟩, ⟨p7, n7, rfl, -⟩⟩ := id hI
            clear hI hfr hb90 c90 f90 hRR hRD
            go_wp2_with fail
            refine bodyPost_ret (v := .tuple #[.agg #[.slice p9 (outP (l, hd, tl) x).1.length n9, .slice p8 (outP (l, hd, tl) x).2.1.length n8, .slice p7 (outP (l, hd, tl) x).2.2.length n7], .int .i64 0]) (by simp [results, Try.results13, go_sem, r0, r1, r2, z0, z1, z2]) rfl ⟨_, _, _, by rw [hf.out.1], by rw [hf.out.2]; exact IsLS.from (IsLS.from (IsLS.from HI.out HF9.out (by omega)) HF9.out (by omega)) HF9.out (by omega), ?_⟩
            (repeat (first | (with_reducible exact Below.refl _ _) | ((with_reducible refine below_alloc ?_ ?_ _); · (first | omega | (simp; done) | (simp; omega))) | ((with_reducible refine below_setCell ?_ ?_ _); · (first | omega | (simp; done) | (simp; omega))) | (with_reducible refine Below.drew ?_) | (with_reducible refine below_drewN ?_ _) | ((with_reducible refine below_call (by assumption) ?_ ?_); · (first | omega | (simp; done) | (simp; omega)))))
  · have hf : Hid (unlE (l, hd, tl) a = chkL (l, hd, tl) ∧ unlS (l, hd, tl) a = (l, hd, tl)) := by
      have e : unlE (l, hd, tl) a = chkL (l, hd, tl) := by rw [hE, if_pos hc]
      exact Lib.hid ⟨e, by rw [hS, e, if_neg hc]⟩
    have hc1 : (chkL (l, hd, tl) != 0) = true := by simpa using hc
    clear hE hS hc hcp hrep
    go_enter Try.func13, Try.ntmps13
    go_wp2_with fail
    refine (ck.out _ (by (repeat (first | (with_reducible exact Below.refl _ _) | ((with_reducible refine below_alloc ?_ ?_ _); · (first | omega | (simp; done) | (simp; omega))) | ((with_reducible refine below_setCell ?_ ?_ _); · (first | omega | (simp; done) | (simp; omega))) | (with_reducible refine Below.drew ?_) | (with_reducible refine below_drewN ?_ _) | ((with_reducible refine below_call (by assumption) ?_ ?_); · (first | omega | (simp; done) | (simp; omega))))))).mono ?_; rintro e w1 ⟨rfl, hb1⟩
    obtain ⟨hk1, hf1, hz1⟩ := bcellN (n := w.heap.size + 2) (by (try simp only [World.size_drew, World.size_alloc, World.size_setCell]); omega) hb1; have hz1_0 : w.heap.size < w1.heap.size := (by omega); have hz1_1 : w.heap.size + 1 < w1.heap.size := (by omega)
    go_wp2_with fail
    refine bodyPost_ret (v := .tuple #[.agg #[.slice pn l.length cn, .slice ph hd.length ch, .slice pt tl.length ct], .int .i64 (chkL (l, hd, tl))]) (by simp [results, Try.results13, go_sem, hk1, hz1_0, hz1_1]) rfl ⟨_, _, _, by rw [hf.out.1], by rw [hf.out.2]; exact HV.out.call (by (repeat (first | (with_reducible exact Below.refl _ _) | ((with_reducible refine below_alloc ?_ ?_ _); · (first | omega | (simp; done) | (simp; omega))) | ((with_reducible refine below_setCell ?_ ?_ _); · (first | omega | (simp; done) | (simp; omega))) | (with_reducible refine Below.drew ?_) | (with_reducible refine below_drewN ?_ _) | ((with_reducible refine below_call (by assumption) ?_ ?_); · (first | omega | (simp; done) | (simp; omega)))))), ?_⟩
    (repeat (first | (with_reducible exact Below.refl _ _) | ((with_reducible refine below_alloc ?_ ?_ _); · (first | omega | (simp; done) | (simp; omega))) | ((with_reducible refine below_setCell ?_ ?_ _); · (first | omega | (simp; done) | (simp; omega))) | (with_reducible refine Below.drew ?_) | (with_reducible refine below_drewN ?_ _) | ((with_reducible refine below_call (by assumption) ?_ ?_); · (first | omega | (simp; done) | (simp; omega)))))
end Go.Proofs.Ytkcenadenmkgnaa
