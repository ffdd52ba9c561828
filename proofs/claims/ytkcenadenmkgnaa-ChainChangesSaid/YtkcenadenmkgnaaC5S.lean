/- Contracts of layer 4, the program's: Splice. -/
import Derived.Test.YtkcenadenmkgnaaC5H
import Derived.Test.YtkcenadenmkgnaaC5O
namespace Go.Proofs.Ytkcenadenmkgnaa
open Go.RowKit
set_option linter.unusedVariables false
set_option linter.unusedSimpArgs false

def splE (st : LSt) (i j : Int) : Int := if chkL st ≠ 0 then chkL st else if isB st i = false then 8 else if isB st j = false then 8 else if i = j then 2 else 0
def splS (st : LSt) (i j : Int) : LSt := if splE st i j = 0 then (walkN st i.toNat).foldl (splF j.toNat) st else st
theorem row_below {w : World} {B b o : Nat} {E : TypeId} {z m : Nat} {v u : Value} {xs : List Value} (h : w.ownsRow B E z v m xs) (hb : b < B) : (w.setCell ⟨b, o, none⟩ u).ownsRow B E z v m xs := by
  obtain ⟨h1, h2⟩ := h
  refine ⟨h1, ?_⟩
  rcases h2 with h2 | ⟨g, cap, cur, hv, hB, hg, r⟩
  · exact .inl h2
  · exact .inr ⟨g, cap, cur, hv, hB, (Below.heap_setCell w _ u g (by show g ≠ b; omega)).trans hg, r⟩
theorem own_but {w w' : World} {B : Nat} {E : TypeId} {z m : Nat} {v : Value} {xs : List Value} {gn gh gt : Nat} (h : w.ownsRow B E z v m xs) (hu : But3 w w' gn gh gt) (hne : ∀ q, v.ownBlock = some q → q ≠ gn ∧ q ≠ gh ∧ q ≠ gt) : w'.ownsRow B E z v m xs := by
  have hlt := h.lt
  obtain ⟨h1, h2⟩ := h
  refine ⟨h1, ?_⟩
  rcases h2 with h2 | ⟨g, cap, cur, hv, hB, hg, r⟩
  · exact .inl h2
  · have hq : v.ownBlock = some g := by rw [hv]; rfl
    obtain ⟨a, b, c⟩ := hne g hq
    exact .inr ⟨g, cap, cur, hv, hB, (hu g (hlt g hq).2 a b c).trans hg, r⟩

set_option maxRecDepth 100000 in
set_option maxHeartbeats 1000000 in
theorem splice_any (vn vh vt : Value) (st : LSt) (i j : Int) (w : World) (hv : IsLS w vn vh vt st) (h1 : st.1.length ≤ 1048576) (h2 : st.2.1.length ≤ 1048576) (h3 : st.2.2.length ≤ 1048576) :
    Calls Try.prog 14 #[.agg #[vn, vh, vt], .int .i64 i, .int .i64 j] w fun e w' => ∃ un uh ut, e = .returned (.tuple #[.agg #[un, uh, ut], .int .i64 (splE st i j)]) ∧ OutLS w' w.heap.size vn vh vt st un uh ut (splS st i j) ∧ Below w.heap.size w w' := by
  have ct0 := fun k W (h : Below w.heap.size w W) hR hi hit => through_any vn vh vt st k W (hv.call h) h1 h2 hR hi hit
  have htc := fun k h hi => thr_chk (st := st) h (i := k) hi
  have hrep := fun h => rep_chk (st := st) h
  have HV := Lib.hid hv
  have ck := Lib.hid (fun W (h : Below w.heap.size w W) => chk_any vn vh vt st W (HV.out.call h) h1 h2 h3)
  have cc := Lib.hid (fun W (h : Below w.heap.size w W) a b c => copied_any vn vh vt st W (HV.out.call h) a b c)
  have hcp := fun h => chkL_parts (st := st) h
  obtain ⟨l, hd, tl⟩ := st
  replace h1 : l.length ≤ 1048576 := h1
  replace h2 : hd.length ≤ 1048576 := h2
  replace h3 : tl.length ≤ 1048576 := h3
  obtain ⟨⟨pn, cn, rfl, hn⟩, ⟨ph, ch, rfl, hh⟩, ⟨pt, ct, rfl, -⟩⟩ := hv
  have HN := Lib.hid hn
  clear hn
  have c1 := fun W => hasI_any ph hd.length ch i W
  have c2 := fun W => hasI_any ph hd.length ch j W
  have hE : splE (l, hd, tl) i j = if chkL (l, hd, tl) ≠ 0 then chkL (l, hd, tl) else if inB i 0 ((hd.length : Int) - 1) = false then 8 else if inB j 0 ((hd.length : Int) - 1) = false then 8 else if i = j then 2 else 0 := rfl
  have hS : splS (l, hd, tl) i j = if splE (l, hd, tl) i j = 0 then (walkN (l, hd, tl) i.toNat).foldl (splF j.toNat) (l, hd, tl) else (l, hd, tl) := rfl
  clear hh HN
  by_cases hc : chkL (l, hd, tl) = 0
  · rw [hc] at ck
    cases b1 : inB i 0 ((hd.length : Int) - 1)
    · rw [b1] at c1
      have hf : Hid (splE (l, hd, tl) i j = 8 ∧ splS (l, hd, tl) i j = (l, hd, tl)) := by
        have e : splE (l, hd, tl) i j = 8 := by rw [hE, if_neg (by simp [hc]), if_pos b1]
        exact Lib.hid ⟨e, by rw [hS, e]; rfl⟩
      clear hE hS hc b1 hcp ct0 htc hrep
      go_enter Try.func14, Try.ntmps14
      go_wp2_with fail
      refine (ck.out _ (by (repeat (first | (with_reducible exact Below.refl _ _) | ((with_reducible refine below_alloc ?_ ?_ _); · (first | omega | (simp; done) | (simp; omega))) | ((with_reducible refine below_setCell ?_ ?_ _); · (first | omega | (simp; done) | (simp; omega))) | (with_reducible refine Below.drew ?_) | (with_reducible refine below_drewN ?_ _) | ((with_reducible refine below_call (by assumption) ?_ ?_); · (first | omega | (simp; done) | (simp; omega))))))).mono ?_; rintro e w1 ⟨rfl, hb1⟩
      obtain ⟨hk1, hf1, hz1⟩ := bcellN (n := w.heap.size + 2) (by (try simp only [World.size_drew, World.size_alloc, World.size_setCell]); omega) hb1; have hz1_0 : w.heap.size < w1.heap.size := (by omega); have hz1_1 : w.heap.size + 1 < w1.heap.size := (by omega)
      go_wp2_with fail
      refine (c1 _).mono ?_; rintro e w2 ⟨rfl, hb2⟩
      obtain ⟨hk2, hf2, hz2⟩ := bcellN (n := w.heap.size + 2) (by (try simp only [World.size_drew, World.size_alloc, World.size_setCell]); omega) hb2; have hz2_0 : w.heap.size < w2.heap.size := (by omega); have hz2_1 : w.heap.size + 1 < w2.heap.size := (by omega)
      go_wp2_with fail
      refine bodyPost_ret (v := .tuple #[.agg #[.slice pn l.length cn, .slice ph hd.length ch, .slice pt tl.length ct], .int .i64 8]) (by simp [results, Try.results14, go_sem, hk1, hz1_0, hz1_1, hk2, hz2_0, hz2_1]) rfl ⟨_, _, _, by rw [hf.out.1], .inl ⟨rfl, rfl, rfl, hf.out.2⟩, ?_⟩
      (repeat (first | (with_reducible exact Below.refl _ _) | ((with_reducible refine below_alloc ?_ ?_ _); · (first | omega | (simp; done) | (simp; omega))) | ((with_reducible refine below_setCell ?_ ?_ _); · (first | omega | (simp; done) | (simp; omega))) | (with_reducible refine Below.drew ?_) | (with_reducible refine below_drewN ?_ _) | ((with_reducible refine below_call (by assumption) ?_ ?_); · (first | omega | (simp; done) | (simp; omega)))))
    · rw [b1] at c1
      cases b2 : inB j 0 ((hd.length : Int) - 1)
      · rw [b2] at c2
        have hf : Hid (splE (l, hd, tl) i j = 8 ∧ splS (l, hd, tl) i j = (l, hd, tl)) := by
          have e : splE (l, hd, tl) i j = 8 := by rw [hE, if_neg (by simp [hc]), if_neg (by simp [b1]), if_pos b2]
          exact Lib.hid ⟨e, by rw [hS, e]; rfl⟩
        clear hE hS hc b1 b2 hcp ct0 htc hrep
        go_enter Try.func14, Try.ntmps14
        go_wp2_with fail
        refine (ck.out _ (by (repeat (first | (with_reducible exact Below.refl _ _) | ((with_reducible refine below_alloc ?_ ?_ _); · (first | omega | (simp; done) | (simp; omega))) | ((with_reducible refine below_setCell ?_ ?_ _); · (first | omega | (simp; done) | (simp; omega))) | (with_reducible refine Below.drew ?_) | (with_reducible refine below_drewN ?_ _) | ((with_reducible refine below_call (by assumption) ?_ ?_); · (first | omega | (simp; done) | (simp; omega))))))).mono ?_; rintro e w1 ⟨rfl, hb1⟩
        obtain ⟨hk1, hf1, hz1⟩ := bcellN (n := w.heap.size + 2) (by (try simp only [World.size_drew, World.size_alloc, World.size_setCell]); omega) hb1; have hz1_0 : w.heap.size < w1.heap.size := (by omega); have hz1_1 : w.heap.size + 1 < w1.heap.size := (by omega)
        go_wp2_with fail
        refine (c1 _).mono ?_; rintro e w2 ⟨rfl, hb2⟩
        obtain ⟨hk2, hf2, hz2⟩ := bcellN (n := w.heap.size + 2) (by (try simp only [World.size_drew, World.size_alloc, World.size_setCell]); omega) hb2; have hz2_0 : w.heap.size < w2.heap.size := (by omega); have hz2_1 : w.heap.size + 1 < w2.heap.size := (by omega)
        go_wp2_with fail
        refine (c2 _).mono ?_; rintro e w3 ⟨rfl, hb3⟩
        obtain ⟨hk3, hf3, hz3⟩ := bcellN (n := w.heap.size + 2) (by (try simp only [World.size_drew, World.size_alloc, World.size_setCell]); omega) hb3; have hz3_0 : w.heap.size < w3.heap.size := (by omega); have hz3_1 : w.heap.size + 1 < w3.heap.size := (by omega)
        go_wp2_with fail
        refine bodyPost_ret (v := .tuple #[.agg #[.slice pn l.length cn, .slice ph hd.length ch, .slice pt tl.length ct], .int .i64 8]) (by simp [results, Try.results14, go_sem, hk1, hz1_0, hz1_1, hk2, hz2_0, hz2_1, hk3, hz3_0, hz3_1]) rfl ⟨_, _, _, by rw [hf.out.1], .inl ⟨rfl, rfl, rfl, hf.out.2⟩, ?_⟩
        (repeat (first | (with_reducible exact Below.refl _ _) | ((with_reducible refine below_alloc ?_ ?_ _); · (first | omega | (simp; done) | (simp; omega))) | ((with_reducible refine below_setCell ?_ ?_ _); · (first | omega | (simp; done) | (simp; omega))) | (with_reducible refine Below.drew ?_) | (with_reducible refine below_drewN ?_ _) | ((with_reducible refine below_call (by assumption) ?_ ?_); · (first | omega | (simp; done) | (simp; omega)))))
      · rw [b2] at c2
        by_cases hij : i = j
        · have hf : Hid (splE (l, hd, tl) i j = 2 ∧ splS (l, hd, tl) i j = (l, hd, tl)) := by
            have e : splE (l, hd, tl) i j = 2 := by rw [hE, if_neg (by simp [hc]), if_neg (by simp [b1]), if_neg (by simp [b2]), if_pos hij]
            exact Lib.hid ⟨e, by rw [hS, e]; rfl⟩
          have hij' : (i == j) = true := by simp [hij]
          clear hE hS hc b1 b2 hij hcp ct0 htc hrep
          go_enter Try.func14, Try.ntmps14
          go_wp2_with fail
          refine (ck.out _ (by (repeat (first | (with_reducible exact Below.refl _ _) | ((with_reducible refine below_alloc ?_ ?_ _); · (first | omega | (simp; done) | (simp; omega))) | ((with_reducible refine below_setCell ?_ ?_ _); · (first | omega | (simp; done) | (simp; omega))) | (with_reducible refine Below.drew ?_) | (with_reducible refine below_drewN ?_ _) | ((with_reducible refine below_call (by assumption) ?_ ?_); · (first | omega | (simp; done) | (simp; omega))))))).mono ?_; rintro e w1 ⟨rfl, hb1⟩
          obtain ⟨hk1, hf1, hz1⟩ := bcellN (n := w.heap.size + 2) (by (try simp only [World.size_drew, World.size_alloc, World.size_setCell]); omega) hb1; have hz1_0 : w.heap.size < w1.heap.size := (by omega); have hz1_1 : w.heap.size + 1 < w1.heap.size := (by omega)
          go_wp2_with fail
          refine (c1 _).mono ?_; rintro e w2 ⟨rfl, hb2⟩
          obtain ⟨hk2, hf2, hz2⟩ := bcellN (n := w.heap.size + 2) (by (try simp only [World.size_drew, World.size_alloc, World.size_setCell]); omega) hb2; have hz2_0 : w.heap.size < w2.heap.size := (by omega); have hz2_1 : w.heap.size + 1 < w2.heap.size := (by omega)
          go_wp2_with fail
          refine (c2 _).mono ?_; rintro e w3 ⟨rfl, hb3⟩
          obtain ⟨hk3, hf3, hz3⟩ := bcellN (n := w.heap.size + 2) (by (try simp only [World.size_drew, World.size_alloc, World.size_setCell]); omega) hb3; have hz3_0 : w.heap.size < w3.heap.size := (by omega); have hz3_1 : w.heap.size + 1 < w3.heap.size := (by omega)
          go_wp2_with fail
          refine bodyPost_ret (v := .tuple #[.agg #[.slice pn l.length cn, .slice ph hd.length ch, .slice pt tl.length ct], .int .i64 2]) (by simp [results, Try.results14, go_sem, hk1, hz1_0, hz1_1, hk2, hz2_0, hz2_1, hk3, hz3_0, hz3_1]) rfl ⟨_, _, _, by rw [hf.out.1], .inl ⟨rfl, rfl, rfl, hf.out.2⟩, ?_⟩
          (repeat (first | (with_reducible exact Below.refl _ _) | ((with_reducible refine below_alloc ?_ ?_ _); · (first | omega | (simp; done) | (simp; omega))) | ((with_reducible refine below_setCell ?_ ?_ _); · (first | omega | (simp; done) | (simp; omega))) | (with_reducible refine Below.drew ?_) | (with_reducible refine below_drewN ?_ _) | ((with_reducible refine below_call (by assumption) ?_ ?_); · (first | omega | (simp; done) | (simp; omega)))))
        · have b1' := b1
          have b2' := b2
          rw [inB_iff] at b1' b2'
          obtain ⟨f, rfl⟩ : ∃ k : Nat, i = k := ⟨i.toNat, by omega⟩
          obtain ⟨g, rfl⟩ : ∃ k : Nat, j = k := ⟨j.toNat, by omega⟩
          have hfl : f < hd.length := by omega
          have hgl : g < hd.length := by omega
          have hfg : f ≠ g := fun e => hij (by rw [e])
          have hij' : ((f : Int) == g) = false := beq_eq_false_iff_ne.2 (by omega)
          obtain ⟨hln, hkn, htl, hR, -, -⟩ := hcp hc
          have hrp := hrep hc
          obtain ⟨L, hL⟩ : ∃ L, allL (l, hd, tl) = L := ⟨_, rfl⟩
          have hLl : L.length = hd.length := by rw [← hL, allL_len]
          rw [hL] at hrp
          obtain ⟨X, hX⟩ : ∃ X, walkN (l, hd, tl) f = X := ⟨_, rfl⟩
          have hXL : L[f]'(by omega) = X := by rw [← rep_walk hrp, hX]
          have hfold := rep_fold hfg (by omega) (by omega) hrp
          rw [hXL] at hfold
          have hth : thrL (l, hd, tl) f = X := by rw [htc f hc hfl, hX]
          have hXn : X.length ≤ l.length := by
            have := thrL_len (l, hd, tl) f
            rw [hth] at this; exact this
          have c4 := Lib.hid (fun W (h : Below w.heap.size w W) => ct0 f W h hR hfl (by rw [htl]; exact hfl))
          rw [hth] at c4
          have hf : Hid (splE (l, hd, tl) f g = 0 ∧ splS (l, hd, tl) f g = X.foldl (splF g) (l, hd, tl)) := by
            have e : splE (l, hd, tl) f g = 0 := by rw [hE, if_neg (by simp [hc]), if_neg (by simp [b1]), if_neg (by simp [b2]), if_neg hij]
            exact Lib.hid ⟨e, by rw [hS, if_pos e, Int.toNat_natCast, Int.toNat_natCast, hX]⟩
          -- what each round wants
          have hround : ∀ t (ht : t < X.length), ∃ x : Nat, X[t] = (x : Int) ∧ x < l.length ∧ (nodAt ((X.take t).foldl (splF g) (l, hd, tl)).1 x).1 = f ∧
              (-1 ≤ (nodAt ((X.take t).foldl (splF g) (l, hd, tl)).1 x).2.1 ∧ (nodAt ((X.take t).foldl (splF g) (l, hd, tl)).1 x).2.1 < l.length) ∧ (-1 ≤ (nodAt ((X.take t).foldl (splF g) (l, hd, tl)).1 x).2.2 ∧ (nodAt ((X.take t).foldl (splF g) (l, hd, tl)).1 x).2.2 < l.length) ∧
              (-1 ≤ (outP ((X.take t).foldl (splF g) (l, hd, tl)) x).2.2.getD g (-1) ∧ (outP ((X.take t).foldl (splF g) (l, hd, tl)) x).2.2.getD g (-1) < l.length) ∧ (X.take (t + 1)).foldl (splF g) (l, hd, tl) = putP (outP ((X.take t).foldl (splF g) (l, hd, tl)) x) g x := by
            intro t ht
            have hr := hfold t (by omega)
            have hlen : ∀ (Y : List Int) (s : LSt), (Y.foldl (splF g) s).1.length = s.1.length := by
              intro Y
              induction Y with
              | nil => intro s; rfl
              | cons a r ih => intro s; rw [List.foldl_cons, ih, (splF_len g s a).1]
            have hsn := hlen (X.take t) (l, hd, tl)
            have hlf : f < ((L.set f (X.drop t)).set g (L[g]'(by omega) ++ X.take t)).length := by simpa using (show f < L.length by omega)
            have hlg : g < ((L.set f (X.drop t)).set g (L[g]'(by omega) ++ X.take t)).length := by simpa using (show g < L.length by omega)
            have e : ((L.set f (X.drop t)).set g (L[g]'(by omega) ++ X.take t))[f] = [] ++ X[t] :: X.drop (t + 1) := by
              rw [List.getElem_set_ne (Ne.symm hfg), List.getElem_set_self, List.nil_append]
              exact List.drop_eq_getElem_cons ht
            have hb := hr.bd hlf (a := X[t]) (by rw [e]; exact List.mem_append_right _ (List.mem_cons_self ..))
            obtain ⟨x, hx⟩ : ∃ x : Nat, X[t] = x := ⟨X[t].toNat, by omega⟩
            rw [hx] at e hb
            obtain ⟨m1, m2, m3, m4⟩ := rep_mem hr hlf (k := x) (by rw [e]; exact List.mem_append_right _ (List.mem_cons_self ..))
            have ho := rep_out hr hlf e
            have htt := rep_tail_rng ho (i := g) (by rw [List.length_set]; exact hlg)
            rw [(outP_len _ x).1] at htt
            rw [hsn] at m1 m3 m4 htt
            refine ⟨x, hx, m1, m2, m3, m4, htt, ?_⟩
            rw [List.take_succ_eq_append_getElem ht, List.foldl_append, List.foldl_cons, List.foldl_nil, hx]
            unfold splF
            rw [Int.toNat_natCast]
          have HR := Lib.hid hround
          have HT3 := Lib.hid htl
          have CT : Hid (∀ (s : LSt) (x : Nat) W gn gh gt an ah at' (hW : OwnLS W (w.heap.size + 2) l.length hd.length gn gh gt an ah at' s) (hBW : w.heap.size + 2 ≤ W.heap.size) _ _ _ _, _) := Lib.hid (fun s x W gn gh gt an ah at' hW hBW hx m2 m3 m4 => takeout_any (w.heap.size + 2) l.length hd.length gn gh gt an ah at' s f x W hW hBW hfl hx m2 m3 m4 hln.2 hkn.2)
          have CP : Hid (∀ (s : LSt) (x : Nat) W gn gh gt an ah at' (hW : OwnLS W (w.heap.size + 2) l.length hd.length gn gh gt an ah at' s) (hBW : w.heap.size + 2 ≤ W.heap.size) _ _, _) := Lib.hid (fun s x W gn gh gt an ah at' hW hBW hx m5 => putbehind_any (w.heap.size + 2) l.length hd.length gn gh gt an ah at' s g x W hW hBW hgl hx m5 hln.2 hkn.2)
          have hXl' : (X.length : Int) ≤ 64 := by have : l.length ≤ 64 := hln.2; omega
          clear hE hS hc b1 b2 hcp ct0 htc hrep hrp hL hX hXL hfold hth hround htl hR hij hLl b1' b2'
          go_enter Try.func14, Try.ntmps14
          go_wp2_with fail
          refine (ck.out _ (by (repeat (first | (with_reducible exact Below.refl _ _) | ((with_reducible refine below_alloc ?_ ?_ _); · (first | omega | (simp; done) | (simp; omega))) | ((with_reducible refine below_setCell ?_ ?_ _); · (first | omega | (simp; done) | (simp; omega))) | (with_reducible refine Below.drew ?_) | (with_reducible refine below_drewN ?_ _) | ((with_reducible refine below_call (by assumption) ?_ ?_); · (first | omega | (simp; done) | (simp; omega))))))).mono ?_; rintro e w1 ⟨rfl, hb1⟩
          obtain ⟨hk1, hf1, hz1⟩ := bcellN (n := w.heap.size + 2) (by (try simp only [World.size_drew, World.size_alloc, World.size_setCell]); omega) hb1; have hz1_0 : w.heap.size < w1.heap.size := (by omega); have hz1_1 : w.heap.size + 1 < w1.heap.size := (by omega)
          go_wp2_with fail
          refine (c1 _).mono ?_; rintro e w2 ⟨rfl, hb2⟩
          obtain ⟨hk2, hf2, hz2⟩ := bcellN (n := w.heap.size + 2) (by (try simp only [World.size_drew, World.size_alloc, World.size_setCell]); omega) hb2; have hz2_0 : w.heap.size < w2.heap.size := (by omega); have hz2_1 : w.heap.size + 1 < w2.heap.size := (by omega)
          go_wp2_with fail
          refine (c2 _).mono ?_; rintro e w3 ⟨rfl, hb3⟩
          obtain ⟨hk3, hf3, hz3⟩ := bcellN (n := w.heap.size + 2) (by (try simp only [World.size_drew, World.size_alloc, World.size_setCell]); omega) hb3; have hz3_0 : w.heap.size < w3.heap.size := (by omega); have hz3_1 : w.heap.size + 1 < w3.heap.size := (by omega)
          go_wp2_with fail
          refine (c4.out _ (by (repeat (first | (with_reducible exact Below.refl _ _) | ((with_reducible refine below_alloc ?_ ?_ _); · (first | omega | (simp; done) | (simp; omega))) | ((with_reducible refine below_setCell ?_ ?_ _); · (first | omega | (simp; done) | (simp; omega))) | (with_reducible refine Below.drew ?_) | (with_reducible refine below_drewN ?_ _) | ((with_reducible refine below_call (by assumption) ?_ ?_); · (first | omega | (simp; done) | (simp; omega))))))).mono ?_; rintro e w4 ⟨v, rfl, hX4, hb4⟩
          obtain ⟨hk4, hf4, hz4⟩ := bcellN (n := w.heap.size + 2) (by (try simp only [World.size_drew, World.size_alloc, World.size_setCell]); omega) hb4; have hz4_0 : w.heap.size < w4.heap.size := (by omega); have hz4_1 : w.heap.size + 1 < w4.heap.size := (by omega)
          obtain ⟨ao, cp, hve⟩ := rowI_shape hX4
          subst hve
          have hs4 := hb4.size
          have H4 := Lib.hid hX4
          have HQ4 : Hid (∀ q, (Value.slice ao X.length cp).ownBlock = some q → q < w4.heap.size) := Lib.hid (fun q hq => (World.ownsRow.lt hX4 q hq).2)
          clear hX4
          go_wp2_with fail
          refine (cc.out _ (by (repeat (first | (with_reducible exact Below.refl _ _) | ((with_reducible refine below_alloc ?_ ?_ _); · (first | omega | (simp; done) | (simp; omega))) | ((with_reducible refine below_setCell ?_ ?_ _); · (first | omega | (simp; done) | (simp; omega))) | (with_reducible refine Below.drew ?_) | (with_reducible refine below_drewN ?_ _) | ((with_reducible refine below_call (by assumption) ?_ ?_); · (first | omega | (simp; done) | (simp; omega)))))) hln hkn HT3.out).mono ?_; rintro e w5 ⟨gn, gh, gt, an, ah, at', rfl, hO, hb5⟩
          obtain ⟨hk5, hf5, hz5⟩ := bcellN (n := w.heap.size + 2) (by (try simp only [World.size_drew, World.size_alloc, World.size_setCell]); omega) hb5; have hz5_0 : w.heap.size < w5.heap.size := (by omega); have hz5_1 : w.heap.size + 1 < w5.heap.size := (by omega)
          (try dsimp only at hO)
          obtain ⟨⟨b1, _⟩, ⟨b2, _⟩, ⟨b3, _⟩⟩ := hO.lt
          (try simp only [World.size_drew, World.size_alloc, World.size_setCell] at b1 b2 b3)
          have BB : w.heap.size + 2 ≤ gn ∧ w.heap.size + 2 ≤ gh ∧ w.heap.size + 2 ≤ gt := by omega
          have HQ : Hid (∀ q, (Value.slice ao X.length cp).ownBlock = some q → q ≠ gn ∧ q ≠ gh ∧ q ≠ gt) := Lib.hid (fun q hq => by have := HQ4.out q hq; omega)
          have HO := Lib.hid (hO.mono (B' := w.heap.size + 2) (by (try simp only [World.size_drew, World.size_alloc, World.size_setCell]); omega))
          clear hO b1 b2 b3 HQ4
          have n1 : w.heap.size ≠ gn := by omega
          have n2 : w.heap.size ≠ gh := by omega
          have n3 : w.heap.size ≠ gt := by omega
          have m1 : w.heap.size + 1 ≠ gn := by omega
          have m2 : w.heap.size + 1 ≠ gh := by omega
          have m3 : w.heap.size + 1 ≠ gt := by omega
          go_wp2_with fail
          have hXo : w5.ownsRow (w.heap.size + 2) 3 1 (.slice ao X.length cp) X.length (X.map (Value.int .i64)) := own_mono ((show World.ownsRow _ _ _ _ _ _ _ from H4.out).call' (by (repeat (first | (with_reducible exact Below.refl _ _) | ((with_reducible refine below_alloc ?_ ?_ _); · (first | omega | (simp; done) | (simp; omega))) | ((with_reducible refine below_setCell ?_ ?_ _); · (first | omega | (simp; done) | (simp; omega))) | (with_reducible refine Below.drew ?_) | (with_reducible refine below_drewN ?_ _) | ((with_reducible refine below_call (by assumption) ?_ ?_); · (first | omega | (simp; done) | (simp; omega))))))) (by (try simp only [World.size_drew, World.size_alloc, World.size_setCell]); omega)
          have hXk : ∀ (o : Nat) (u : Value) (W : World), W.ownsRow (w.heap.size + 2) 3 1 (.slice ao X.length cp) X.length (X.map (Value.int .i64)) → (W.setCell ⟨w.heap.size, o, none⟩ u).ownsRow (w.heap.size + 2) 3 1 (.slice ao X.length cp) X.length (X.map (Value.int .i64)) := fun o u W h => row_below h (by omega)
          refine gen_world (F := fun wt => (wt.cell? ⟨w.heap.size, 0, none⟩ = some (.slice (some ⟨gn, 0, none⟩) l.length an) ∧ wt.cell? ⟨w.heap.size, 1, none⟩ = some (.slice (some ⟨gh, 0, none⟩) hd.length ah) ∧ wt.cell? ⟨w.heap.size, 2, none⟩ = some (.slice (some ⟨gt, 0, none⟩) hd.length at')) ∧ ((wt.cell? ⟨w.heap.size + 1, 0, none⟩ = some (.slice none 0 0) ∧ wt.cell? ⟨w.heap.size + 1, 1, none⟩ = some (.slice none 0 0) ∧ wt.cell? ⟨w.heap.size + 1, 2, none⟩ = some (.slice none 0 0)) ∧ (wt.frozen? ⟨w.heap.size + 1, 0, none⟩ = false ∧ wt.frozen? ⟨w.heap.size + 1, 1, none⟩ = false ∧ wt.frozen? ⟨w.heap.size + 1, 2, none⟩ = false)) ∧ OwnLS wt (w.heap.size + 2) l.length hd.length gn gh gt an ah at' (l, hd, tl) ∧ wt.ownsRow 0 3 1 (.slice ao X.length cp) X.length (X.map (Value.int .i64)) ∧ Below w.heap.size w wt ∧ w.heap.size + 2 ≤ wt.heap.size) ⟨⟨by simp [go_sem, hk1, hz1_0, hz1_1, hk2, hz2_0, hz2_1, hk3, hz3_0, hz3_1, hk4, hz4_0, hz4_1, hk5, hz5_0, hz5_1], by simp [go_sem, hk1, hz1_0, hz1_1, hk2, hz2_0, hz2_1, hk3, hz3_0, hz3_1, hk4, hz4_0, hz4_1, hk5, hz5_0, hz5_1], by simp [go_sem, hk1, hz1_0, hz1_1, hk2, hz2_0, hz2_1, hk3, hz3_0, hz3_1, hk4, hz4_0, hz4_1, hk5, hz5_0, hz5_1]⟩, ⟨⟨by simp [go_sem, hk1, hz1_0, hz1_1, hk2, hz2_0, hz2_1, hk3, hz3_0, hz3_1, hk4, hz4_0, hz4_1, hk5, hz5_0, hz5_1], by simp [go_sem, hk1, hz1_0, hz1_1, hk2, hz2_0, hz2_1, hk3, hz3_0, hz3_1, hk4, hz4_0, hz4_1, hk5, hz5_0, hz5_1], by simp [go_sem, hk1, hz1_0, hz1_1, hk2, hz2_0, hz2_1, hk3, hz3_0, hz3_1, hk4, hz4_0, hz4_1, hk5, hz5_0, hz5_1]⟩, ⟨by simp [go_sem, hf1, hz1_0, hz1_1, hf2, hz2_0, hz2_1, hf3, hz3_0, hz3_1, hf4, hz4_0, hz4_1, hf5, hz5_0, hz5_1], by simp [go_sem, hf1, hz1_0, hz1_1, hf2, hz2_0, hz2_1, hf3, hz3_0, hz3_1, hf4, hz4_0, hz4_1, hf5, hz5_0, hz5_1], by simp [go_sem, hf1, hz1_0, hz1_1, hf2, hz2_0, hz2_1, hf3, hz3_0, hz3_1, hf4, hz4_0, hz4_1, hf5, hz5_0, hz5_1]⟩⟩, ((HO.out.keep _ (by omega)).keep _ (by omega)).keep _ (by omega), own_mono (hXk _ _ _ (hXk _ _ _ (hXk _ _ _ hXo))) (Nat.zero_le _), by (repeat (first | (with_reducible exact Below.refl _ _) | ((with_reducible refine below_alloc ?_ ?_ _); · (first | omega | (simp; done) | (simp; omega))) | ((with_reducible refine below_setCell ?_ ?_ _); · (first | omega | (simp; done) | (simp; omega))) | (with_reducible refine Below.drew ?_) | (with_reducible refine below_drewN ?_ _) | ((with_reducible refine below_call (by assumption) ?_ ?_); · (first | omega | (simp; done) | (simp; omega))))), by (try simp only [World.size_drew, World.size_alloc, World.size_setCell]); omega⟩ (fun W hF => ?_)
          clear hXo hXk hk1 hf1 hz1 hz1_0 hz1_1 hb1 hk2 hf2 hz2 hz2_0 hz2_1 hb2 hk3 hf3 hz3 hz3_0 hz3_1 hb3 hk4 hf4 hz4 hz4_0 hz4_1 hb4 hk5 hf5 hz5 hz5_0 hz5_1 hb5 HO H4 hs4
          have HF := Lib.hid hF
          clear hF
          go_loopw [46] (fun ii wr => ∃ t : Nat, ii = .int .i64 t ∧ t ≤ X.length ∧ (wr.cell? ⟨w.heap.size, 0, none⟩ = some (.slice (some ⟨gn, 0, none⟩) l.length an) ∧ wr.cell? ⟨w.heap.size, 1, none⟩ = some (.slice (some ⟨gh, 0, none⟩) hd.length ah) ∧ wr.cell? ⟨w.heap.size, 2, none⟩ = some (.slice (some ⟨gt, 0, none⟩) hd.length at')) ∧ ((wr.cell? ⟨w.heap.size + 1, 0, none⟩ = some (.slice none 0 0) ∧ wr.cell? ⟨w.heap.size + 1, 1, none⟩ = some (.slice none 0 0) ∧ wr.cell? ⟨w.heap.size + 1, 2, none⟩ = some (.slice none 0 0)) ∧ (wr.frozen? ⟨w.heap.size + 1, 0, none⟩ = false ∧ wr.frozen? ⟨w.heap.size + 1, 1, none⟩ = false ∧ wr.frozen? ⟨w.heap.size + 1, 2, none⟩ = false)) ∧ OwnLS wr (w.heap.size + 2) l.length hd.length gn gh gt an ah at' ((X.take t).foldl (splF g) (l, hd, tl)) ∧ wr.ownsRow 0 3 1 (.slice ao X.length cp) X.length (X.map (Value.int .i64)) ∧ Below w.heap.size w wr ∧ w.heap.size + 2 ≤ wr.heap.size) (fun ii _ => X.length - (intOf ii).toNat)
          case atStart => exact ⟨0, rfl, Nat.zero_le _, HF.out⟩
          case round =>
            obtain ⟨t, rfl, ht, ⟨e0, e1, e2⟩, ⟨⟨r0, r1, r2⟩, ⟨z0, z1, z2⟩⟩, hO, hXr, hB, hz⟩ := hrel
            by_cases htl : t < X.length
            · have htl' : (t : Int) < X.length := by omega
              obtain ⟨x, hx, m1', m2', m3', m4', m5', m6'⟩ := HR.out t htl
              obtain ⟨pa, ca, ea, ra⟩ := OwnI.reads (B := 0) (l := X) hXr
              obtain ⟨ba, oa, e1a, da⟩ := ra t htl
              rw [hx] at da
              simp only [Value.slice.injEq] at ea
              obtain ⟨ep, -, ec⟩ := ea
              rw [e1a] at ep
              subst ep
              obtain ⟨s, hs⟩ : ∃ s, (X.take t).foldl (splF g) (l, hd, tl) = s := ⟨_, rfl⟩
              rw [hs] at m2' m3' m4' m5' m6' hO
              have hO' := Lib.hid hO
              have HXr := Lib.hid hXr
              have HB := Lib.hid hB
              have ct1 := CT.out s x wr gn gh gt an ah at' hO hz m1' m2' m3' m4'
              have CP1 := Lib.hid (fun W hW hBW => CP.out (outP s x) x W gn gh gt an ah at' hW hBW m1' m5')
              have H6 := Lib.hid m6'
              clear hx m1' m2' m3' m4' m5' m6' ra e1a ec hs hO hXr hB
              go_wp2_with fail
              refine ct1.mono ?_; rintro e w20 ⟨rfl, hO20, hu20, hb20⟩
              have hs20 := hb20.size
              replace e0 := hu20.cell e0 n1 n2 n3
              replace e1 := hu20.cell e1 n1 n2 n3
              replace e2 := hu20.cell e2 n1 n2 n3
              replace r0 := hu20.cell r0 m1 m2 m3
              replace r1 := hu20.cell r1 m1 m2 m3
              replace r2 := hu20.cell r2 m1 m2 m3
              replace z0 := (hu20.frozen (o := 0) (by omega) m1 m2 m3).trans z0
              replace z1 := (hu20.frozen (o := 1) (by omega) m1 m2 m3).trans z1
              replace z2 := (hu20.frozen (o := 2) (by omega) m1 m2 m3).trans z2
              have HB20 := Lib.hid (HB.out.trans (hb20.mono (by omega)))
              have HX20 := Lib.hid (own_but HXr.out hu20 HQ.out)
              have H20 := Lib.hid hO20
              clear ct1 hO20 hu20 hb20 HB HXr da
              go_wp2_with fail
              refine (CP1.out _ H20.out (by omega)).mono ?_; rintro e w21 ⟨rfl, hO21, hu21, hb21⟩
              have hs21 := hb21.size
              replace e0 := hu21.cell e0 n1 n2 n3
              replace e1 := hu21.cell e1 n1 n2 n3
              replace e2 := hu21.cell e2 n1 n2 n3
              replace r0 := hu21.cell r0 m1 m2 m3
              replace r1 := hu21.cell r1 m1 m2 m3
              replace r2 := hu21.cell r2 m1 m2 m3
              replace z0 := (hu21.frozen (o := 0) (by omega) m1 m2 m3).trans z0
              replace z1 := (hu21.frozen (o := 1) (by omega) m1 m2 m3).trans z1
              replace z2 := (hu21.frozen (o := 2) (by omega) m1 m2 m3).trans z2
              have HB21 := Lib.hid (HB20.out.trans (hb21.mono (by omega)))
              have HX21 := Lib.hid (own_but HX20.out hu21 HQ.out)
              rw [← H6.out] at hO21
              have H21 := Lib.hid hO21
              clear hO21 hu21 hb21
              go_wp2_with fail
              go_roundw
              case rel => exact ⟨t + 1, by go_num, by omega, ⟨e0, e1, e2⟩, ⟨⟨r0, r1, r2⟩, ⟨z0, z1, z2⟩⟩, H21.out, HX21.out, HB21.out, by omega⟩
              case measure => simp [intOf]; omega
            · obtain rfl : t = X.length := by omega
              rw [List.take_length] at hO
              have HO := Lib.hid hO
              clear hO hXr
              go_wp2_with fail
              refine bodyPost_ret (v := .tuple #[.agg #[.slice (some ⟨gn, 0, none⟩) l.length an, .slice (some ⟨gh, 0, none⟩) hd.length ah, .slice (some ⟨gt, 0, none⟩) hd.length at'], .int .i64 0]) (by simp [results, Try.results14, go_sem, r0, r1, r2, z0, z1, z2]) rfl ⟨_, _, _, by rw [hf.out.1], .inr ⟨l.length, hd.length, gn, gh, gt, an, ah, at', rfl, rfl, rfl, ?_⟩, ?_⟩
              · rw [hf.out.2]; exact (((HO.out.keep _ (by omega)).keep _ (by omega)).keep _ (by omega)).mono (by omega)
              · (repeat (first | (with_reducible exact Below.refl _ _) | ((with_reducible refine below_alloc ?_ ?_ _); · (first | omega | (simp; done) | (simp; omega))) | ((with_reducible refine below_setCell ?_ ?_ _); · (first | omega | (simp; done) | (simp; omega))) | (with_reducible refine Below.drew ?_) | (with_reducible refine below_drewN ?_ _) | ((with_reducible refine below_call (by assumption) ?_ ?_); · (first | omega | (simp; done) | (simp; omega)))))
  · have hf : Hid (splE (l, hd, tl) i j = chkL (l, hd, tl) ∧ splS (l, hd, tl) i j = (l, hd, tl)) := by
      have e : splE (l, hd, tl) i j = chkL (l, hd, tl) := by rw [hE, if_pos hc]
      exact Lib.hid ⟨e, by rw [hS, e, if_neg hc]⟩
    have hc1 : (chkL (l, hd, tl) != 0) = true := by simpa using hc
    clear hE hS hc hcp ct0 htc hrep
    go_enter Try.func14, Try.ntmps14
    go_wp2_with fail
    refine (ck.out _ (by (repeat (first | (with_reducible exact Below.refl _ _) | ((with_reducible refine below_alloc ?_ ?_ _); · (first | omega | (simp; done) | (simp; omega))) | ((with_reducible refine below_setCell ?_ ?_ _); · (first | omega | (simp; done) | (simp; omega))) | (with_reducible refine Below.drew ?_) | (with_reducible refine below_drewN ?_ _) | ((with_reducible refine below_call (by assumption) ?_ ?_); · (first | omega | (simp; done) | (simp; omega))))))).mono ?_; rintro e w1 ⟨rfl, hb1⟩
    obtain ⟨hk1, hf1, hz1⟩ := bcellN (n := w.heap.size + 2) (by (try simp only [World.size_drew, World.size_alloc, World.size_setCell]); omega) hb1; have hz1_0 : w.heap.size < w1.heap.size := (by omega); have hz1_1 : w.heap.size + 1 < w1.heap.size := (by omega)
    go_wp2_with fail
    refine bodyPost_ret (v := .tuple #[.agg #[.slice pn l.length cn, .slice ph hd.length ch, .slice pt tl.length ct], .int .i64 (chkL (l, hd, tl))]) (by simp [results, Try.results14, go_sem, hk1, hz1_0, hz1_1]) rfl ⟨_, _, _, by rw [hf.out.1], .inl ⟨rfl, rfl, rfl, hf.out.2⟩, ?_⟩
    (repeat (first | (with_reducible exact Below.refl _ _) | ((with_reducible refine below_alloc ?_ ?_ _); · (first | omega | (simp; done) | (simp; omega))) | ((with_reducible refine below_setCell ?_ ?_ _); · (first | omega | (simp; done) | (simp; omega))) | (with_reducible refine Below.drew ?_) | (with_reducible refine below_drewN ?_ _) | ((with_reducible refine below_call (by assumption) ?_ ?_); · (first | omega | (simp; done) | (simp; omega)))))
end Go.Proofs.Ytkcenadenmkgnaa
