/- The document's Splice. -/
import Derived.Test.YtkcenadenmkgnaaC9V
namespace Go.Proofs.Ytkcenadenmkgnaa
open Go.RowKit
set_option linter.unusedVariables false
set_option linter.unusedSimpArgs false

theorem step_append_row {w : World} {ops : Array Oper} {o : Oper} {act : Act} {K : Act → World → Prop} {Q : Exit → Act → World → Prop} {E : Prop} (hgd : o.guard = none) (s x : Operand)
    (ho : o.op = .call { callee := .builtin .append, args := #[s, x], argTypes := #[23, 23] })
    (B : Nat) (v u : Value) (X Y : List Int) (hs : act.eval s = v) (hown : OwnI w B v X) (hx : act.eval x = u) (hu : OwnI w B u Y) (hl : X.length + Y.length ≤ 1000) (hB : B ≤ w.heap.size)
    (h : ∀ v' w', OwnI w' B v' (X ++ Y) → w.grownBy w' v.ownBlock → (v'.ownBlock = v.ownBlock ∨ v'.ownBlock = some w.heap.size) → K (act.put o.dst v') w') :
    if Region.wanted o (yielded ops act.tmps) = true then Oper.wp Try.prog o act w K Q else E := by
  have hw : Region.wanted o (yielded ops act.tmps) = true := by simp [Region.wanted, hgd]
  rw [if_pos hw]
  obtain ⟨i0, hi, hj0, hj1, hj2⟩ := info_parts info_int
  have hown' : w.ownsRow B 3 1 v X.length (X.map (Value.int .i64)) := hown
  have hu' : w.ownsRow B 3 1 u Y.length (Y.map (Value.int .i64)) := hu
  rcases hu.2 with ⟨hv, hn⟩ | ⟨g, cap, cur, hv, _⟩
  · obtain rfl := List.eq_nil_of_length_eq_zero hn
    subst hv
    have hrun := run_append_owned_none (P := Try.prog) (w := w) B 23 o.type 3 i0 1 Try.underlying23 hi v X.length _ hown'
    have hg2 := h v w (by rw [List.append_nil]; exact hown) (World.grownBy.refl _ _) (.inl rfl)
    unfold Oper.wp
    simp [execOp, ho, resolve, invoke, builtin, hs, hx, hrun, Result.andThen]
    exact hg2
  · subst hv
    obtain ⟨v', w', hrun, r1, r2, _, r4⟩ := run_append_own_at (P := Try.prog) (w := w) B 23 o.type 3 i0 (.int .i64 0) 1 8 Try.underlying23 hi hj0 hj1 hj2 rfl (by decide) v X.length _ hown' ⟨g, 0, none⟩ Y.length cap (Y.map (Value.int .i64)) (by simp) (fun j q hq => by
      rw [Addr.add_lit, Nat.zero_add]
      have hj := (List.getElem?_eq_some_iff.1 hq).1
      rw [List.length_map] at hj
      rw [hu'.cellAt j (by omega)]; exact hq) (fun q hq => by obtain ⟨_, _, rfl⟩ := List.mem_map.1 hq; rfl) (by unfold maxLen; omega) (by omega) hB
    have hg2 := h v' w' (by show World.ownsRow _ _ _ _ _ _ _; rw [List.length_append, List.map_append]; exact r1) r2 r4
    unfold Oper.wp
    simp [execOp, ho, resolve, invoke, builtin, hs, hx, hrun, Result.andThen]
    exact hg2
theorem spl_rep {st : LSt} {L : List (List Int)} (h : Rep st L) {i j : Nat} (hi : i < L.length) (hj : j < L.length) (hij : i ≠ j) (he : splE st i j = 0) :
    Rep (splS st i j) ((L.set j (L[j] ++ L[i])).set i []) ∧ (splS st i j).1.length = st.1.length := by
  have e : splS st i j = L[i].foldl (splF j) st := by
    unfold splS
    rw [if_pos he, Int.toNat_natCast, Int.toNat_natCast, rep_walk h hi]
  have hr := rep_fold hij hi hj h L[i].length (Nat.le_refl _)
  rw [List.take_length, List.drop_length, ← e] at hr
  refine ⟨?_, ?_⟩
  · rw [List.set_comm _ _ (Ne.symm hij)]; exact hr
  · rw [e]
    have hx : ∀ (X : List Int) (s : LSt), (X.foldl (splF j) s).1.length = s.1.length := by
      intro X
      induction X with
      | nil => intro s; rfl
      | cons b q ihq => intro s; rw [List.foldl_cons, ihq, (splF_len j s b).1]
    exact hx _ _

set_option maxRecDepth 100000 in
set_option maxHeartbeats 8000000 in
theorem refspl_any (vn vh vt : Value) (st : LSt) (i j : Int) (w : World) (hv : IsLS w vn vh vt st) (h1 : st.1.length ≤ 1048576) (h2 : st.2.1.length ≤ 1048576) (h3 : st.2.2.length ≤ 1048576) :
    Calls Try.prog 15 #[.agg #[vn, vh, vt], .int .i64 i, .int .i64 j] w fun e w' => ∃ un uh ut, e = .returned (.tuple #[.agg #[un, uh, ut], .int .i64 (splE st i j)]) ∧ IsLS w' un uh ut (splS st i j) ∧ Below w.heap.size w w' := by
  have HV := Lib.hid hv
  have ck := Lib.hid (fun W (h : Below w.heap.size w W) => refchk_any vn vh vt st W (HV.out.call h) h1 h2 h3)
  have ca := Lib.hid (fun W (h : Below w.heap.size w W) hR => refall_any vn vh vt st W (HV.out.call h) h1 h2 hR)
  have ci := fun a W (h : Below w.heap.size w W) => is_any vn vh vt st a W (HV.out.call h) h2
  have hcp := fun h => chkL_parts (st := st) h
  have hrep := fun h => rep_chk (st := st) h
  have hE : splE st i j = if chkL st ≠ 0 then chkL st else if isB st i = false then 8 else if isB st j = false then 8 else if i = j then 2 else 0 := rfl
  have hS : splS st i j = if splE st i j = 0 then (walkN st i.toNat).foldl (splF j.toNat) st else st := rfl
  obtain ⟨l, hd, tl⟩ := st
  replace h1 : l.length ≤ 1048576 := h1
  replace h2 : hd.length ≤ 1048576 := h2
  replace h3 : tl.length ≤ 1048576 := h3
  obtain ⟨⟨pn, cn, rfl, -⟩, ⟨ph, ch, rfl, -⟩, ⟨pt, ct, rfl, -⟩⟩ := hv
  have c1 := ci i
  have c2 := ci j
  clear ci
  by_cases hc : chkL (l, hd, tl) = 0
  · rw [hc] at ck
    cases b1 : isB (l, hd, tl) i
    · rw [b1] at c1
      have hf : Hid (splE (l, hd, tl) i j = 8 ∧ splS (l, hd, tl) i j = (l, hd, tl)) := by
        have e : splE (l, hd, tl) i j = 8 := by rw [hE, if_neg (by simp [hc]), if_pos b1]
        exact Lib.hid ⟨e, by rw [hS, e]; rfl⟩
      clear hE hS hc b1 hcp hrep
      go_enter Try.func15, Try.ntmps15
      go_wp2_with fail
      refine (ck.out _ (by (repeat (first | (with_reducible exact Below.refl _ _) | ((with_reducible refine below_alloc ?_ ?_ _); · (first | omega | (simp; done) | (simp; omega))) | ((with_reducible refine below_setCell ?_ ?_ _); · (first | omega | (simp; done) | (simp; omega))) | (with_reducible refine Below.drew ?_) | (with_reducible refine below_drewN ?_ _) | ((with_reducible refine below_call (by assumption) ?_ ?_); · (first | omega | (simp; done) | (simp; omega))))))).mono ?_; rintro e w1 ⟨rfl, hb1⟩
      obtain ⟨hk1, hf1, hz1⟩ := bcellN (n := w.heap.size + 2) (by (try simp only [World.size_drew, World.size_alloc, World.size_setCell]); omega) hb1; have hz1_0 : w.heap.size < w1.heap.size := (by omega); have hz1_1 : w.heap.size + 1 < w1.heap.size := (by omega)
      go_wp2_with fail
      refine (c1 _ (by (repeat (first | (with_reducible exact Below.refl _ _) | ((with_reducible refine below_alloc ?_ ?_ _); · (first | omega | (simp; done) | (simp; omega))) | ((with_reducible refine below_setCell ?_ ?_ _); · (first | omega | (simp; done) | (simp; omega))) | (with_reducible refine Below.drew ?_) | (with_reducible refine below_drewN ?_ _) | ((with_reducible refine below_call (by assumption) ?_ ?_); · (first | omega | (simp; done) | (simp; omega))))))).mono ?_; rintro e w2 ⟨rfl, hb2⟩
      obtain ⟨hk2, hf2, hz2⟩ := bcellN (n := w.heap.size + 2) (by (try simp only [World.size_drew, World.size_alloc, World.size_setCell]); omega) hb2; have hz2_0 : w.heap.size < w2.heap.size := (by omega); have hz2_1 : w.heap.size + 1 < w2.heap.size := (by omega)
      go_wp2_with fail
      refine bodyPost_ret (v := .tuple #[.agg #[.slice pn l.length cn, .slice ph hd.length ch, .slice pt tl.length ct], .int .i64 8]) (by simp [results, Try.results15, go_sem, hk1, hz1_0, hz1_1, hk2, hz2_0, hz2_1]) rfl ⟨_, _, _, by rw [hf.out.1], by rw [hf.out.2]; exact HV.out.call (by (repeat (first | (with_reducible exact Below.refl _ _) | ((with_reducible refine below_alloc ?_ ?_ _); · (first | omega | (simp; done) | (simp; omega))) | ((with_reducible refine below_setCell ?_ ?_ _); · (first | omega | (simp; done) | (simp; omega))) | (with_reducible refine Below.drew ?_) | (with_reducible refine below_drewN ?_ _) | ((with_reducible refine below_call (by assumption) ?_ ?_); · (first | omega | (simp; done) | (simp; omega)))))), ?_⟩
      (repeat (first | (with_reducible exact Below.refl _ _) | ((with_reducible refine below_alloc ?_ ?_ _); · (first | omega | (simp; done) | (simp; omega))) | ((with_reducible refine below_setCell ?_ ?_ _); · (first | omega | (simp; done) | (simp; omega))) | (with_reducible refine Below.drew ?_) | (with_reducible refine below_drewN ?_ _) | ((with_reducible refine below_call (by assumption) ?_ ?_); · (first | omega | (simp; done) | (simp; omega)))))
    · rw [b1] at c1
      cases b2 : isB (l, hd, tl) j
      · rw [b2] at c2
        have hf : Hid (splE (l, hd, tl) i j = 8 ∧ splS (l, hd, tl) i j = (l, hd, tl)) := by
          have e : splE (l, hd, tl) i j = 8 := by rw [hE, if_neg (by simp [hc]), if_neg (by simp [b1]), if_pos b2]
          exact Lib.hid ⟨e, by rw [hS, e]; rfl⟩
        clear hE hS hc b1 b2 hcp hrep
        go_enter Try.func15, Try.ntmps15
        go_wp2_with fail
        refine (ck.out _ (by (repeat (first | (with_reducible exact Below.refl _ _) | ((with_reducible refine below_alloc ?_ ?_ _); · (first | omega | (simp; done) | (simp; omega))) | ((with_reducible refine below_setCell ?_ ?_ _); · (first | omega | (simp; done) | (simp; omega))) | (with_reducible refine Below.drew ?_) | (with_reducible refine below_drewN ?_ _) | ((with_reducible refine below_call (by assumption) ?_ ?_); · (first | omega | (simp; done) | (simp; omega))))))).mono ?_; rintro e w1 ⟨rfl, hb1⟩
        obtain ⟨hk1, hf1, hz1⟩ := bcellN (n := w.heap.size + 2) (by (try simp only [World.size_drew, World.size_alloc, World.size_setCell]); omega) hb1; have hz1_0 : w.heap.size < w1.heap.size := (by omega); have hz1_1 : w.heap.size + 1 < w1.heap.size := (by omega)
        go_wp2_with fail
        refine (c1 _ (by (repeat (first | (with_reducible exact Below.refl _ _) | ((with_reducible refine below_alloc ?_ ?_ _); · (first | omega | (simp; done) | (simp; omega))) | ((with_reducible refine below_setCell ?_ ?_ _); · (first | omega | (simp; done) | (simp; omega))) | (with_reducible refine Below.drew ?_) | (with_reducible refine below_drewN ?_ _) | ((with_reducible refine below_call (by assumption) ?_ ?_); · (first | omega | (simp; done) | (simp; omega))))))).mono ?_; rintro e w2 ⟨rfl, hb2⟩
        obtain ⟨hk2, hf2, hz2⟩ := bcellN (n := w.heap.size + 2) (by (try simp only [World.size_drew, World.size_alloc, World.size_setCell]); omega) hb2; have hz2_0 : w.heap.size < w2.heap.size := (by omega); have hz2_1 : w.heap.size + 1 < w2.heap.size := (by omega)
        go_wp2_with fail
        refine (c2 _ (by (repeat (first | (with_reducible exact Below.refl _ _) | ((with_reducible refine below_alloc ?_ ?_ _); · (first | omega | (simp; done) | (simp; omega))) | ((with_reducible refine below_setCell ?_ ?_ _); · (first | omega | (simp; done) | (simp; omega))) | (with_reducible refine Below.drew ?_) | (with_reducible refine below_drewN ?_ _) | ((with_reducible refine below_call (by assumption) ?_ ?_); · (first | omega | (simp; done) | (simp; omega))))))).mono ?_; rintro e w3 ⟨rfl, hb3⟩
        obtain ⟨hk3, hf3, hz3⟩ := bcellN (n := w.heap.size + 2) (by (try simp only [World.size_drew, World.size_alloc, World.size_setCell]); omega) hb3; have hz3_0 : w.heap.size < w3.heap.size := (by omega); have hz3_1 : w.heap.size + 1 < w3.heap.size := (by omega)
        go_wp2_with fail
        refine bodyPost_ret (v := .tuple #[.agg #[.slice pn l.length cn, .slice ph hd.length ch, .slice pt tl.length ct], .int .i64 8]) (by simp [results, Try.results15, go_sem, hk1, hz1_0, hz1_1, hk2, hz2_0, hz2_1, hk3, hz3_0, hz3_1]) rfl ⟨_, _, _, by rw [hf.out.1], by rw [hf.out.2]; exact HV.out.call (by (repeat (first | (with_reducible exact Below.refl _ _) | ((with_reducible refine below_alloc ?_ ?_ _); · (first | omega | (simp; done) | (simp; omega))) | ((with_reducible refine below_setCell ?_ ?_ _); · (first | omega | (simp; done) | (simp; omega))) | (with_reducible refine Below.drew ?_) | (with_reducible refine below_drewN ?_ _) | ((with_reducible refine below_call (by assumption) ?_ ?_); · (first | omega | (simp; done) | (simp; omega)))))), ?_⟩
        (repeat (first | (with_reducible exact Below.refl _ _) | ((with_reducible refine below_alloc ?_ ?_ _); · (first | omega | (simp; done) | (simp; omega))) | ((with_reducible refine below_setCell ?_ ?_ _); · (first | omega | (simp; done) | (simp; omega))) | (with_reducible refine Below.drew ?_) | (with_reducible refine below_drewN ?_ _) | ((with_reducible refine below_call (by assumption) ?_ ?_); · (first | omega | (simp; done) | (simp; omega)))))
      · rw [b2] at c2
        have b1' := b1
        have b2' := b2
        unfold isB at b1' b2'
        rw [inB_iff] at b1' b2'
        replace b1' : 0 ≤ i ∧ i ≤ (hd.length : Int) - 1 := b1'
        replace b2' : 0 ≤ j ∧ j ≤ (hd.length : Int) - 1 := b2'
        by_cases hij : i = j
        · have hf : Hid (splE (l, hd, tl) i j = 2 ∧ splS (l, hd, tl) i j = (l, hd, tl)) := by
            have e : splE (l, hd, tl) i j = 2 := by rw [hE, if_neg (by simp [hc]), if_neg (by simp [b1]), if_neg (by simp [b2]), if_pos hij]
            exact Lib.hid ⟨e, by rw [hS, e]; rfl⟩
          clear hE hS hc b1 b2 b1' b2' hcp hrep
          subst hij
          go_enter Try.func15, Try.ntmps15
          go_wp2_with fail
          refine (ck.out _ (by (repeat (first | (with_reducible exact Below.refl _ _) | ((with_reducible refine below_alloc ?_ ?_ _); · (first | omega | (simp; done) | (simp; omega))) | ((with_reducible refine below_setCell ?_ ?_ _); · (first | omega | (simp; done) | (simp; omega))) | (with_reducible refine Below.drew ?_) | (with_reducible refine below_drewN ?_ _) | ((with_reducible refine below_call (by assumption) ?_ ?_); · (first | omega | (simp; done) | (simp; omega))))))).mono ?_; rintro e w1 ⟨rfl, hb1⟩
          obtain ⟨hk1, hf1, hz1⟩ := bcellN (n := w.heap.size + 2) (by (try simp only [World.size_drew, World.size_alloc, World.size_setCell]); omega) hb1; have hz1_0 : w.heap.size < w1.heap.size := (by omega); have hz1_1 : w.heap.size + 1 < w1.heap.size := (by omega)
          go_wp2_with fail
          refine (c1 _ (by (repeat (first | (with_reducible exact Below.refl _ _) | ((with_reducible refine below_alloc ?_ ?_ _); · (first | omega | (simp; done) | (simp; omega))) | ((with_reducible refine below_setCell ?_ ?_ _); · (first | omega | (simp; done) | (simp; omega))) | (with_reducible refine Below.drew ?_) | (with_reducible refine below_drewN ?_ _) | ((with_reducible refine below_call (by assumption) ?_ ?_); · (first | omega | (simp; done) | (simp; omega))))))).mono ?_; rintro e w2 ⟨rfl, hb2⟩
          obtain ⟨hk2, hf2, hz2⟩ := bcellN (n := w.heap.size + 2) (by (try simp only [World.size_drew, World.size_alloc, World.size_setCell]); omega) hb2; have hz2_0 : w.heap.size < w2.heap.size := (by omega); have hz2_1 : w.heap.size + 1 < w2.heap.size := (by omega)
          go_wp2_with fail
          refine (c2 _ (by (repeat (first | (with_reducible exact Below.refl _ _) | ((with_reducible refine below_alloc ?_ ?_ _); · (first | omega | (simp; done) | (simp; omega))) | ((with_reducible refine below_setCell ?_ ?_ _); · (first | omega | (simp; done) | (simp; omega))) | (with_reducible refine Below.drew ?_) | (with_reducible refine below_drewN ?_ _) | ((with_reducible refine below_call (by assumption) ?_ ?_); · (first | omega | (simp; done) | (simp; omega))))))).mono ?_; rintro e w3 ⟨rfl, hb3⟩
          obtain ⟨hk3, hf3, hz3⟩ := bcellN (n := w.heap.size + 2) (by (try simp only [World.size_drew, World.size_alloc, World.size_setCell]); omega) hb3; have hz3_0 : w.heap.size < w3.heap.size := (by omega); have hz3_1 : w.heap.size + 1 < w3.heap.size := (by omega)
          go_wp2_with fail
          refine bodyPost_ret (v := .tuple #[.agg #[.slice pn l.length cn, .slice ph hd.length ch, .slice pt tl.length ct], .int .i64 2]) (by simp [results, Try.results15, go_sem, hk1, hz1_0, hz1_1, hk2, hz2_0, hz2_1, hk3, hz3_0, hz3_1]) rfl ⟨_, _, _, by rw [hf.out.1], by rw [hf.out.2]; exact HV.out.call (by (repeat (first | (with_reducible exact Below.refl _ _) | ((with_reducible refine below_alloc ?_ ?_ _); · (first | omega | (simp; done) | (simp; omega))) | ((with_reducible refine below_setCell ?_ ?_ _); · (first | omega | (simp; done) | (simp; omega))) | (with_reducible refine Below.drew ?_) | (with_reducible refine below_drewN ?_ _) | ((with_reducible refine below_call (by assumption) ?_ ?_); · (first | omega | (simp; done) | (simp; omega)))))), ?_⟩
          (repeat (first | (with_reducible exact Below.refl _ _) | ((with_reducible refine below_alloc ?_ ?_ _); · (first | omega | (simp; done) | (simp; omega))) | ((with_reducible refine below_setCell ?_ ?_ _); · (first | omega | (simp; done) | (simp; omega))) | (with_reducible refine Below.drew ?_) | (with_reducible refine below_drewN ?_ _) | ((with_reducible refine below_call (by assumption) ?_ ?_); · (first | omega | (simp; done) | (simp; omega)))))
        · have hf0 : splE (l, hd, tl) i j = 0 := by rw [hE, if_neg (by simp [hc]), if_neg (by simp [b1]), if_neg (by simp [b2]), if_neg hij]
          have hf := Lib.hid hf0
          obtain ⟨ki, rfl⟩ : ∃ k : Nat, i = k := ⟨i.toNat, by omega⟩
          obtain ⟨kj, rfl⟩ : ∃ k : Nat, j = k := ⟨j.toNat, by omega⟩
          have hijn : ki ≠ kj := fun e => hij (by rw [e])
          have hij2 : ((ki : Int) == kj) = false := by simp [hij]
          obtain ⟨hln, hkn, htl, hR, -, -⟩ := hcp hc
          have HR := Lib.hid hR
          have hrp := hrep hc
          have hln1 : 1 ≤ l.length ∧ l.length ≤ 64 := hln
          have hkn1 : 1 ≤ hd.length ∧ hd.length ≤ 8 := hkn
          obtain ⟨L, hL⟩ : ∃ L, allL (l, hd, tl) = L := ⟨_, rfl⟩
          have hLl : L.length = hd.length := by rw [← hL, allL_len]
          rw [hL] at hrp
          have hiL : ki < L.length := by omega
          have hjL : kj < L.length := by omega
          have hiL' : (ki : Int) < L.length := by omega
          have hjL' : (kj : Int) < L.length := by omega
          obtain ⟨hsr, hsl⟩ := spl_rep hrp hiL hjL hijn hf0
          have hSt : Hid (laidS l.length ((L.set kj (L[kj] ++ L[ki])).set ki []) = splS (l, hd, tl) ki kj) := Lib.hid (laid_is (st := (l, hd, tl)) hsr hsl)
          have hGd : Hid (GoodL l.length ((L.set kj (L[kj] ++ L[ki])).set ki [])) := Lib.hid (by have h := rep_good hsr; rw [hsl] at h; exact h)
          have hXi : L[ki].length ≤ l.length := nodup_bd (hrp.nodup hiL) (fun a ha => hrp.bd hiL ha)
          have hXj : L[kj].length ≤ l.length := nodup_bd (hrp.nodup hjL) (fun a ha => hrp.bd hjL ha)
          have HLL := Lib.hid hLl
          have HIJ := Lib.hid hijn
          clear hE hS hc b1 b2 b1' b2' hcp hrep hrp hsr hsl htl hln hkn hf0 hijn
          go_enter Try.func15, Try.ntmps15
          go_wp2_with fail
          refine (ck.out _ (by (repeat (first | (with_reducible exact Below.refl _ _) | ((with_reducible refine below_alloc ?_ ?_ _); · (first | omega | (simp; done) | (simp; omega))) | ((with_reducible refine below_setCell ?_ ?_ _); · (first | omega | (simp; done) | (simp; omega))) | (with_reducible refine Below.drew ?_) | (with_reducible refine below_drewN ?_ _) | ((with_reducible refine below_call (by assumption) ?_ ?_); · (first | omega | (simp; done) | (simp; omega))))))).mono ?_; rintro e w1 ⟨rfl, hb1⟩
          obtain ⟨hk1, hf1, hz1⟩ := bcellN (n := w.heap.size + 2) (by (try simp only [World.size_drew, World.size_alloc, World.size_setCell]); omega) hb1; have hz1_0 : w.heap.size < w1.heap.size := (by omega); have hz1_1 : w.heap.size + 1 < w1.heap.size := (by omega)
          go_wp2_with fail
          refine (c1 _ (by (repeat (first | (with_reducible exact Below.refl _ _) | ((with_reducible refine below_alloc ?_ ?_ _); · (first | omega | (simp; done) | (simp; omega))) | ((with_reducible refine below_setCell ?_ ?_ _); · (first | omega | (simp; done) | (simp; omega))) | (with_reducible refine Below.drew ?_) | (with_reducible refine below_drewN ?_ _) | ((with_reducible refine below_call (by assumption) ?_ ?_); · (first | omega | (simp; done) | (simp; omega))))))).mono ?_; rintro e w2 ⟨rfl, hb2⟩
          obtain ⟨hk2, hf2, hz2⟩ := bcellN (n := w.heap.size + 2) (by (try simp only [World.size_drew, World.size_alloc, World.size_setCell]); omega) hb2; have hz2_0 : w.heap.size < w2.heap.size := (by omega); have hz2_1 : w.heap.size + 1 < w2.heap.size := (by omega)
          go_wp2_with fail
          refine (c2 _ (by (repeat (first | (with_reducible exact Below.refl _ _) | ((with_reducible refine below_alloc ?_ ?_ _); · (first | omega | (simp; done) | (simp; omega))) | ((with_reducible refine below_setCell ?_ ?_ _); · (first | omega | (simp; done) | (simp; omega))) | (with_reducible refine Below.drew ?_) | (with_reducible refine below_drewN ?_ _) | ((with_reducible refine below_call (by assumption) ?_ ?_); · (first | omega | (simp; done) | (simp; omega))))))).mono ?_; rintro e w3 ⟨rfl, hb3⟩
          obtain ⟨hk3, hf3, hz3⟩ := bcellN (n := w.heap.size + 2) (by (try simp only [World.size_drew, World.size_alloc, World.size_setCell]); omega) hb3; have hz3_0 : w.heap.size < w3.heap.size := (by omega); have hz3_1 : w.heap.size + 1 < w3.heap.size := (by omega)
          go_wp2_with fail
          refine (ca.out _ (by (repeat (first | (with_reducible exact Below.refl _ _) | ((with_reducible refine below_alloc ?_ ?_ _); · (first | omega | (simp; done) | (simp; omega))) | ((with_reducible refine below_setCell ?_ ?_ _); · (first | omega | (simp; done) | (simp; omega))) | (with_reducible refine Below.drew ?_) | (with_reducible refine below_drewN ?_ _) | ((with_reducible refine below_call (by assumption) ?_ ?_); · (first | omega | (simp; done) | (simp; omega)))))) HR.out).mono ?_; rintro e w5 ⟨v, vs, rfl, hO, hb5⟩
          obtain ⟨hk5, hf5, hz5⟩ := bcellN (n := w.heap.size + 2) (by (try simp only [World.size_drew, World.size_alloc, World.size_setCell]); omega) hb5; have hz5_0 : w.heap.size < w5.heap.size := (by omega); have hz5_1 : w.heap.size + 1 < w5.heap.size := (by omega)
          have hs5 := hb5.size
          (try simp only [World.size_drew, World.size_alloc, World.size_setCell] at hs5)
          have hB5 : Below w.heap.size w w5 := by (repeat (first | (with_reducible exact Below.refl _ _) | ((with_reducible refine below_alloc ?_ ?_ _); · (first | omega | (simp; done) | (simp; omega))) | ((with_reducible refine below_setCell ?_ ?_ _); · (first | omega | (simp; done) | (simp; omega))) | (with_reducible refine Below.drew ?_) | (with_reducible refine below_drewN ?_ _) | ((with_reducible refine below_call (by assumption) ?_ ?_); · (first | omega | (simp; done) | (simp; omega)))))
          rw [hL] at hO
          replace hO := hO.mono (B' := w.heap.size + 2) (by (try simp only [World.size_drew, World.size_alloc, World.size_setCell]); omega)
          obtain ⟨gl, cl, hve⟩ := own_some hO.row (by omega)
          subst hve
          have hgl := own_lt hO.row
          obtain ⟨ui, hui, hUi⟩ := hO.inn ki hiL
          obtain ⟨uj, huj, hUj⟩ := hO.inn kj hjL
          obtain ⟨ai, ci', hue⟩ := rowI_shape hUi
          obtain ⟨aj, cj', hue2⟩ := rowI_shape hUj
          obtain ⟨Xi, hXie⟩ : ∃ X, L[ki] = X := ⟨_, rfl⟩
          obtain ⟨Xj, hXje⟩ : ∃ X, L[kj] = X := ⟨_, rfl⟩
          rw [hXie] at hUi hue hXi
          rw [hXje] at hUj hue2 hXj
          rw [hXie, hXje] at hSt hGd
          subst hue hue2
          have cli := (hO.row.cellAt ki (by omega)).trans hui
          have clj := (hO.row.cellAt kj (by omega)).trans huj
          have fgl := fun o => hO.row.frozenAt o
          have HO := Lib.hid hO
          have HUi := Lib.hid hUi
          have HUj := Lib.hid hUj
          have HH := Lib.hid (And.intro hui huj)
          clear hO hUi hUj hui huj hL hLl hXie hXje
          have hB5s : w.heap.size + 2 ≤ w5.heap.size := by omega
          go_wp2_with fail
          go_region_law (refine step_append_row rfl (.tmp 41) (.tmp 45) rfl (w.heap.size + 2) (.slice aj Xj.length cj') (.slice ai Xi.length ci') Xj Xi (by simp [Act.eval, Act.put]) (HUj.out.call (Below.drew (Below.refl _ _))) (by simp [Act.eval, Act.put]) (HUi.out.call (Below.drew (Below.refl _ _))) (by omega) (by simp; omega) ?_; intro v' w6 hO6 hg6 hat6; have hs6 := hg6.size; simp only [World.size_drew] at hs6; have hk6 : ∀ q, q < w5.heap.size → some q ≠ (Value.slice aj Xj.length cj').ownBlock → w6.heap[q]? = w5.heap[q]? := (fun q hq hne => hg6.block q hq hne); have hgk := hk6 gl hgl.2 (fun e => HO.out.off kj _ gl HH.out.2 e.symm rfl); have cj6 : w6.cell? ⟨gl, kj, none⟩ = some (.slice aj Xj.length cj') := (World.cell?_of_block (w := w5) (a := ⟨gl, kj, none⟩) hgk).trans clj; have ci6 : w6.cell? ⟨gl, ki, none⟩ = some (.slice ai Xi.length ci') := (World.cell?_of_block (w := w5) (a := ⟨gl, ki, none⟩) hgk).trans cli; have fl6 : ∀ q, w6.frozen? ⟨gl, q, none⟩ = false := (fun q => (World.frozen?_of_block (w := w5) (a := ⟨gl, q, none⟩) hgk).trans (fgl q)); obtain ⟨ao6, cp6, hve6⟩ := rowI_shape hO6; rw [List.length_append] at hve6; subst hve6)
          all_goals
            have hn6 : NotAt gl (.slice ao6 (Xj.length + Xi.length) cp6) := own_notAt (n := 0) hO6 (fun q hq e => by
              subst e
              rcases hat6 with hat | hat
              · exact HO.out.off kj _ q HH.out.2 (hat ▸ hq) rfl
              · rw [hat] at hq; cases hq; exact absurd hgl.2 (Nat.lt_irrefl _))
            have hb6 : Below (w.heap.size + 2) w5 w6 := ((Below.drew (Below.refl _ _)).grown hg6 (by simp; omega) (fun q hq => (World.ownsRow.lt HUj.out q hq).1))
            have e0 : ∀ b o, b < w.heap.size + 2 → w6.cell? ⟨b, o, none⟩ = w5.cell? ⟨b, o, none⟩ := fun b o h => hb6.cell (p := ⟨b, o, none⟩) h
            have g0 : ∀ b o, b < w.heap.size + 2 → w6.frozen? ⟨b, o, none⟩ = w5.frozen? ⟨b, o, none⟩ := fun b o h => hb6.frozen (p := ⟨b, o, none⟩) h
            have HRD := Lib.hid (HO.out.put (w3 := w6) hjL HH.out.2 hs6 hk6 hO6.reads hn6)
            have hBr : Below w.heap.size w w6 := hB5.trans (hb6.mono (by omega))
            have gne0 : gl ≠ w.heap.size := by omega
            have gne0' := gne0.symm
            have gne1 : gl ≠ w.heap.size + 1 := by omega
            have gne1' := gne1.symm
            refine gen_exitT (F := fun wt => ((wt.cell? ⟨w.heap.size + 1, 0, none⟩ = some (.slice none 0 0) ∧ wt.cell? ⟨w.heap.size + 1, 1, none⟩ = some (.slice none 0 0) ∧ wt.cell? ⟨w.heap.size + 1, 2, none⟩ = some (.slice none 0 0)) ∧ (wt.frozen? ⟨w.heap.size + 1, 0, none⟩ = false ∧ wt.frozen? ⟨w.heap.size + 1, 1, none⟩ = false ∧ wt.frozen? ⟨w.heap.size + 1, 2, none⟩ = false)) ∧ wt.cell? ⟨w.heap.size, 0, none⟩ = some (.slice pn l.length cn) ∧ RdII wt (w.heap.size + 2) gl cl (vs.set kj (.slice ao6 (Xj.length + Xi.length) cp6)) (L.set kj (Xj ++ Xi)) ∧ Below w.heap.size w wt ∧ w.heap.size + 2 ≤ wt.heap.size) ⟨⟨⟨by simp [go_sem, hk1, hz1_0, hz1_1, hk2, hz2_0, hz2_1, hk3, hz3_0, hz3_1, hk5, hz5_0, hz5_1, e0, g0, hf1, hf2, hf3, hf5, gne0, gne0', gne1, gne1'], by simp [go_sem, hk1, hz1_0, hz1_1, hk2, hz2_0, hz2_1, hk3, hz3_0, hz3_1, hk5, hz5_0, hz5_1, e0, g0, hf1, hf2, hf3, hf5, gne0, gne0', gne1, gne1'], by simp [go_sem, hk1, hz1_0, hz1_1, hk2, hz2_0, hz2_1, hk3, hz3_0, hz3_1, hk5, hz5_0, hz5_1, e0, g0, hf1, hf2, hf3, hf5, gne0, gne0', gne1, gne1']⟩, by simp [go_sem, hk1, hz1_0, hz1_1, hk2, hz2_0, hz2_1, hk3, hz3_0, hz3_1, hk5, hz5_0, hz5_1, e0, g0, hf1, hf2, hf3, hf5, gne0, gne0', gne1, gne1'], by simp [go_sem, hk1, hz1_0, hz1_1, hk2, hz2_0, hz2_1, hk3, hz3_0, hz3_1, hk5, hz5_0, hz5_1, e0, g0, hf1, hf2, hf3, hf5, gne0, gne0', gne1, gne1'], by simp [go_sem, hk1, hz1_0, hz1_1, hk2, hz2_0, hz2_1, hk3, hz3_0, hz3_1, hk5, hz5_0, hz5_1, e0, g0, hf1, hf2, hf3, hf5, gne0, gne0', gne1, gne1']⟩, by simp [go_sem, hk1, hz1_0, hz1_1, hk2, hz2_0, hz2_1, hk3, hz3_0, hz3_1, hk5, hz5_0, hz5_1, e0, g0, hf1, hf2, hf3, hf5, gne0, gne0', gne1, gne1'], HRD.out, below_at hBr _ (by omega), by simp; omega⟩ (fun W hF => ?_)
            obtain ⟨⟨⟨r0, r1, r2⟩, ⟨z0, z1, z2⟩⟩, q0, hRD, hB, hz⟩ := hF
            clear hk1 hf1 hz1 hz1_0 hz1_1 hb1 hk2 hf2 hz2 hz2_0 hz2_1 hb2 hk3 hf3 hz3 hz3_0 hz3_1 hb3 hk5 hf5 hz5 hz5_0 hz5_1 hb5 HRD e0 g0 hBr hB5 hk6 hb6 hs6 hgk cj6 ci6 fl6 hg6 hat6 hn6 hO6 cli clj fgl
            obtain ⟨u0, hu0, -, -⟩ := hRD.inn ki (by rw [List.length_set]; exact hiL)
            have wci := (hRD.row.cellAt ki (by rw [List.length_set]; omega)).trans hu0
            have wfz := fun q => hRD.row.frozenAt q
            have hRi := hRD.put (i := ki) (by rw [List.length_set]; exact hiL) (u' := .slice none 0 0) (l' := []) ⟨none, 0, rfl, fun j hj => by cases hj⟩ (nil_notAt gl)
            have HRi := Lib.hid hRi
            clear hRi hRD hu0
            go_wp2_with fail
            refine gen_calls2 (F := fun wt => ((wt.cell? ⟨w.heap.size + 1, 0, none⟩ = some (.slice none 0 0) ∧ wt.cell? ⟨w.heap.size + 1, 1, none⟩ = some (.slice none 0 0) ∧ wt.cell? ⟨w.heap.size + 1, 2, none⟩ = some (.slice none 0 0)) ∧ (wt.frozen? ⟨w.heap.size + 1, 0, none⟩ = false ∧ wt.frozen? ⟨w.heap.size + 1, 1, none⟩ = false ∧ wt.frozen? ⟨w.heap.size + 1, 2, none⟩ = false)) ∧ RdII wt (w.heap.size + 2) gl cl ((vs.set kj (.slice ao6 (Xj.length + Xi.length) cp6)).set ki (.slice none 0 0)) ((L.set kj (Xj ++ Xi)).set ki []) ∧ Below w.heap.size w wt ∧ w.heap.size + 2 ≤ wt.heap.size) ⟨⟨⟨by simp [go_sem, r0, gne1, gne1'], by simp [go_sem, r1, gne1, gne1'], by simp [go_sem, r2, gne1, gne1']⟩, by simp [z0], by simp [z1], by simp [z2]⟩, HRi.out, below_at hB _ (by omega), by simp; omega⟩ (fun W2 hF2 => ?_)
            clear r0 r1 r2 z0 z1 z2 q0 hB hz wci wfz HRi
            obtain ⟨⟨⟨r0, r1, r2⟩, ⟨z0, z1, z2⟩⟩, hRD, hB, hz⟩ := hF2
            have hRR := hRD.reads
            rw [List.length_set, List.length_set] at hRR
            refine (laid_any l.length _ _ W2 hRR hGd.out (by omega) (by have := HLL.out; rw [List.length_set, List.length_set]; omega)).mono ?_; rintro e w90 ⟨un, uh, ut, rfl, hI, hfr, hb90⟩
            have hs90 := hb90.size
            have c90 := fun b o (h : b < w.heap.size + 2) => hb90.cell (p := ⟨b, o, none⟩) (by show b < _; omega)
            have f90 := fun b o (h : b < w.heap.size + 2) => hb90.frozen (p := ⟨b, o, none⟩) (by show b < _; omega)
            replace r0 := (c90 _ 0 (by omega)).trans r0
            replace r1 := (c90 _ 1 (by omega)).trans r1
            replace r2 := (c90 _ 2 (by omega)).trans r2
            replace z0 := (f90 _ 0 (by omega)).trans z0
            replace z1 := (f90 _ 1 (by omega)).trans z1
            replace z2 := (f90 _ 2 (by omega)).trans z2
            have hB90 := hB.trans (hb90.mono (by omega))
            rw [hSt.out] at hI
            have HI := Lib.hid hI
            have HF9 := Lib.hid (hfr.mono (B' := w.heap.size + 2) hz)
            obtain ⟨⟨p9, n9, rfl, -⟩, ⟨p8, n8, rfl, -⟩, ⟨p7, n7, rfl, -⟩⟩ := id hI
            clear hI hfr hb90 c90 f90 hRR hRD
            go_wp2_with fail
            refine bodyPost_ret (v := .tuple #[.agg #[.slice p9 (splS (l, hd, tl) ki kj).1.length n9, .slice p8 (splS (l, hd, tl) ki kj).2.1.length n8, .slice p7 (splS (l, hd, tl) ki kj).2.2.length n7], .int .i64 0]) (by simp [results, Try.results15, go_sem, r0, r1, r2, z0, z1, z2]) rfl ⟨_, _, _, by rw [hf.out], IsLS.from (IsLS.from (IsLS.from HI.out HF9.out (by omega)) HF9.out (by omega)) HF9.out (by omega), ?_⟩
            (repeat (first | (with_reducible exact Below.refl _ _) | ((with_reducible refine below_alloc ?_ ?_ _); · (first | omega | (simp; done) | (simp; omega))) | ((with_reducible refine below_setCell ?_ ?_ _); · (first | omega | (simp; done) | (simp; omega))) | (with_reducible refine Below.drew ?_) | (with_reducible refine below_drewN ?_ _) | ((with_reducible refine below_call (by assumption) ?_ ?_); · (first | omega | (simp; done) | (simp; omega)))))
  · have hf : Hid (splE (l, hd, tl) i j = chkL (l, hd, tl) ∧ splS (l, hd, tl) i j = (l, hd, tl)) := by
      have e : splE (l, hd, tl) i j = chkL (l, hd, tl) := by rw [hE, if_pos hc]
      exact Lib.hid ⟨e, by rw [hS, e, if_neg hc]⟩
    have hc1 : (chkL (l, hd, tl) != 0) = true := by simpa using hc
    clear hE hS hc hcp hrep
    go_enter Try.func15, Try.ntmps15
    go_wp2_with fail
    refine (ck.out _ (by (repeat (first | (with_reducible exact Below.refl _ _) | ((with_reducible refine below_alloc ?_ ?_ _); · (first | omega | (simp; done) | (simp; omega))) | ((with_reducible refine below_setCell ?_ ?_ _); · (first | omega | (simp; done) | (simp; omega))) | (with_reducible refine Below.drew ?_) | (with_reducible refine below_drewN ?_ _) | ((with_reducible refine below_call (by assumption) ?_ ?_); · (first | omega | (simp; done) | (simp; omega))))))).mono ?_; rintro e w1 ⟨rfl, hb1⟩
    obtain ⟨hk1, hf1, hz1⟩ := bcellN (n := w.heap.size + 2) (by (try simp only [World.size_drew, World.size_alloc, World.size_setCell]); omega) hb1; have hz1_0 : w.heap.size < w1.heap.size := (by omega); have hz1_1 : w.heap.size + 1 < w1.heap.size := (by omega)
    go_wp2_with fail
    refine bodyPost_ret (v := .tuple #[.agg #[.slice pn l.length cn, .slice ph hd.length ch, .slice pt tl.length ct], .int .i64 (chkL (l, hd, tl))]) (by simp [results, Try.results15, go_sem, hk1, hz1_0, hz1_1]) rfl ⟨_, _, _, by rw [hf.out.1], by rw [hf.out.2]; exact HV.out.call (by (repeat (first | (with_reducible exact Below.refl _ _) | ((with_reducible refine below_alloc ?_ ?_ _); · (first | omega | (simp; done) | (simp; omega))) | ((with_reducible refine below_setCell ?_ ?_ _); · (first | omega | (simp; done) | (simp; omega))) | (with_reducible refine Below.drew ?_) | (with_reducible refine below_drewN ?_ _) | ((with_reducible refine below_call (by assumption) ?_ ?_); · (first | omega | (simp; done) | (simp; omega)))))), ?_⟩
    (repeat (first | (with_reducible exact Below.refl _ _) | ((with_reducible refine below_alloc ?_ ?_ _); · (first | omega | (simp; done) | (simp; omega))) | ((with_reducible refine below_setCell ?_ ?_ _); · (first | omega | (simp; done) | (simp; omega))) | (with_reducible refine Below.drew ?_) | (with_reducible refine below_drewN ?_ _) | ((with_reducible refine below_call (by assumption) ?_ ?_); · (first | omega | (simp; done) | (simp; omega)))))
end Go.Proofs.Ytkcenadenmkgnaa
