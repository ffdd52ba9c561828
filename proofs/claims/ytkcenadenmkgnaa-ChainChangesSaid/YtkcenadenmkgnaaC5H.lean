/- Contracts of layer 4, the program's: Push, Unlink, Turn. -/
import Derived.Test.YtkcenadenmkgnaaC5G
import Derived.Test.YtkcenadenmkgnaaC5E
namespace Go.Proofs.Ytkcenadenmkgnaa
open Go.RowKit
set_option linter.unusedVariables false
set_option linter.unusedSimpArgs false

theorem gen_calls {P : Program} {f : FuncId} {args : Array Value} {Q : Ending → World → Prop} {W : World} (F : World → Prop) (hF : F W) (h : ∀ wt, F wt → Calls P f args wt Q) : Calls P f args W Q := h W hF
/-- a state in new memory -/
def NewLS (w : World) (B : Nat) (vn vh vt : Value) (st : LSt) : Prop :=
  ∃ n k gn gh gt cn ch ct, vn = .slice (some ⟨gn, 0, none⟩) n cn ∧ vh = .slice (some ⟨gh, 0, none⟩) k ch ∧ vt = .slice (some ⟨gt, 0, none⟩) k ct ∧ OwnLS w B n k gn gh gt cn ch ct st
/-- what comes out: what came in, or a state in new memory -/
def OutLS (w : World) (B : Nat) (wn wh wt : Value) (s0 : LSt) (vn vh vt : Value) (st : LSt) : Prop := (vn = wn ∧ vh = wh ∧ vt = wt ∧ st = s0) ∨ NewLS w B vn vh vt st
theorem OutLS.reads {W w : World} {B : Nat} {wn wh wt vn vh vt : Value} {s0 st : LSt} (h : OutLS w B wn wh wt s0 vn vh vt st) (h0 : IsLS w wn wh wt s0) : IsLS w vn vh vt st := by
  rcases h with ⟨rfl, rfl, rfl, rfl⟩ | ⟨n, k, gn, gh, gt, cn, ch, ct, rfl, rfl, rfl, h⟩
  · exact h0
  · exact h.reads
def pushE (st : LSt) (i a : Int) : Int := if chkL st ≠ 0 then chkL st else if isB st i = false then 8 else if inB a 0 ((st.1.length : Int) - 1) = false then 8 else if (nodAt st.1 a.toNat).1 = -1 then 0 else 13
def pushS (st : LSt) (i a : Int) : LSt := if pushE st i a = 0 then putP st i.toNat a.toNat else st
def unlE (st : LSt) (a : Int) : Int := if chkL st ≠ 0 then chkL st else if inB a 0 ((st.1.length : Int) - 1) = false then 8 else if (nodAt st.1 a.toNat).1 = -1 then 6 else 0
def unlS (st : LSt) (a : Int) : LSt := if unlE st a = 0 then outP st a.toNat else st
def turnS (st : LSt) (i : Int) : LSt := if frontL st i = -1 then st else putP (outP st (frontL st i).toNat) i.toNat (frontL st i).toNat
theorem But3.frozen {w w' : World} {gn gh gt : Nat} (h : But3 w w' gn gh gt) {b o : Nat} (hb : b < w.heap.size) (h1 : b ≠ gn) (h2 : b ≠ gh) (h3 : b ≠ gt) : w'.frozen? ⟨b, o, none⟩ = w.frozen? ⟨b, o, none⟩ :=
  World.frozen?_of_block (w := w) (a := ⟨b, o, none⟩) (h b hb h1 h2 h3)
theorem OwnLS.keep {w : World} {B n k gn gh gt cn ch ct : Nat} {st : LSt} (h : OwnLS w B n k gn gh gt cn ch ct st) {b o : Nat} (u : Value) (hb : b < B) : OwnLS (w.setCell ⟨b, o, none⟩ u) B n k gn gh gt cn ch ct st := by
  obtain ⟨⟨a1, _⟩, ⟨a2, _⟩, ⟨a3, _⟩⟩ := h.lt
  exact ⟨own_keep h.nods (by omega), own_keep h.heads (by omega), own_keep h.tails (by omega), h.ne, h.len⟩
theorem tails_rng {st : LSt} (h : chkL st = 0) {i : Nat} (hi : i < st.2.1.length) : -1 ≤ st.2.2.getD i (-1) ∧ st.2.2.getD i (-1) < st.1.length := by
  obtain ⟨hn, hk, ht, hR, hF, hA⟩ := chkL_parts h
  have := links_tail hR (j := i) (by omega)
  have e : st.2.2.getD i (-1) = st.2.2[i]'(by omega) := by simp [List.getD, show i < st.2.2.length by omega]
  rw [e]; exact this

set_option maxRecDepth 100000 in
set_option maxHeartbeats 1000000 in
theorem push_any (vn vh vt : Value) (st : LSt) (i a : Int) (w : World) (hv : IsLS w vn vh vt st) (h1 : st.1.length ≤ 1048576) (h2 : st.2.1.length ≤ 1048576) (h3 : st.2.2.length ≤ 1048576) :
    Calls Try.prog 10 #[.agg #[vn, vh, vt], .int .i64 i, .int .i64 a] w fun e w' => ∃ un uh ut, e = .returned (.tuple #[.agg #[un, uh, ut], .int .i64 (pushE st i a)]) ∧ OutLS w' w.heap.size vn vh vt st un uh ut (pushS st i a) ∧ Below w.heap.size w w' := by
  have HV := Lib.hid hv
  have ck := Lib.hid (fun W (h : Below w.heap.size w W) => chk_any vn vh vt st W (HV.out.call h) h1 h2 h3)
  have cc := Lib.hid (fun W (h : Below w.heap.size w W) a b c => copied_any vn vh vt st W (HV.out.call h) a b c)
  have hcp := fun h => chkL_parts (st := st) h
  have htr := fun h i hi => tails_rng (st := st) h (i := i) hi
  obtain ⟨l, hd, tl⟩ := st
  replace h1 : l.length ≤ 1048576 := h1
  replace h2 : hd.length ≤ 1048576 := h2
  replace h3 : tl.length ≤ 1048576 := h3
  obtain ⟨⟨pn, cn, rfl, hn⟩, ⟨ph, ch, rfl, hh⟩, ⟨pt, ct, rfl, -⟩⟩ := hv
  have HN := Lib.hid hn
  clear hn
  have c1 := fun W => hasI_any ph hd.length ch i W
  have c2 := fun W => hasN_any pn l.length cn a W
  have hE : pushE (l, hd, tl) i a = if chkL (l, hd, tl) ≠ 0 then chkL (l, hd, tl) else if inB i 0 ((hd.length : Int) - 1) = false then 8 else if inB a 0 ((l.length : Int) - 1) = false then 8 else if (nodAt l a.toNat).1 = -1 then 0 else 13 := rfl
  have hS : pushS (l, hd, tl) i a = if pushE (l, hd, tl) i a = 0 then putP (l, hd, tl) i.toNat a.toNat else (l, hd, tl) := rfl
  by_cases hc : chkL (l, hd, tl) = 0
  · rw [hc] at ck
    cases b1 : inB i 0 ((hd.length : Int) - 1)
    · rw [b1] at c1
      have hf : Hid (pushE (l, hd, tl) i a = 8 ∧ pushS (l, hd, tl) i a = (l, hd, tl)) := by
        have e : pushE (l, hd, tl) i a = 8 := by rw [hE, if_neg (by simp [hc]), if_pos b1]
        exact Lib.hid ⟨e, by rw [hS, e]; rfl⟩
      clear hE hS hc b1 hcp htr hh
      go_enter Try.func10, Try.ntmps10
      go_wp2_with fail
      refine (ck.out _ (by (repeat (first | (with_reducible exact Below.refl _ _) | ((with_reducible refine below_alloc ?_ ?_ _); · (first | omega | (simp; done) | (simp; omega))) | ((with_reducible refine below_setCell ?_ ?_ _); · (first | omega | (simp; done) | (simp; omega))) | (with_reducible refine Below.drew ?_) | (with_reducible refine below_drewN ?_ _) | ((with_reducible refine below_call (by assumption) ?_ ?_); · (first | omega | (simp; done) | (simp; omega))))))).mono ?_; rintro e w1 ⟨rfl, hb1⟩
      obtain ⟨hk1, hf1, hz1⟩ := bcellN (n := w.heap.size + 2) (by (try simp only [World.size_drew, World.size_alloc, World.size_setCell]); omega) hb1; have hz1_0 : w.heap.size < w1.heap.size := (by omega); have hz1_1 : w.heap.size + 1 < w1.heap.size := (by omega)
      go_wp2_with fail
      refine (c1 _).mono ?_; rintro e w2 ⟨rfl, hb2⟩
      obtain ⟨hk2, hf2, hz2⟩ := bcellN (n := w.heap.size + 2) (by (try simp only [World.size_drew, World.size_alloc, World.size_setCell]); omega) hb2; have hz2_0 : w.heap.size < w2.heap.size := (by omega); have hz2_1 : w.heap.size + 1 < w2.heap.size := (by omega)
      go_wp2_with fail
      refine bodyPost_ret (v := .tuple #[.agg #[.slice pn l.length cn, .slice ph hd.length ch, .slice pt tl.length ct], .int .i64 8]) (by simp [results, Try.results10, go_sem, hk1, hz1_0, hz1_1, hk2, hz2_0, hz2_1]) rfl ⟨_, _, _, by rw [hf.out.1], .inl ⟨rfl, rfl, rfl, hf.out.2⟩, ?_⟩
      (repeat (first | (with_reducible exact Below.refl _ _) | ((with_reducible refine below_alloc ?_ ?_ _); · (first | omega | (simp; done) | (simp; omega))) | ((with_reducible refine below_setCell ?_ ?_ _); · (first | omega | (simp; done) | (simp; omega))) | (with_reducible refine Below.drew ?_) | (with_reducible refine below_drewN ?_ _) | ((with_reducible refine below_call (by assumption) ?_ ?_); · (first | omega | (simp; done) | (simp; omega)))))
    · rw [b1] at c1
      cases b2 : inB a 0 ((l.length : Int) - 1)
      · rw [b2] at c2
        have hf : Hid (pushE (l, hd, tl) i a = 8 ∧ pushS (l, hd, tl) i a = (l, hd, tl)) := by
          have e : pushE (l, hd, tl) i a = 8 := by rw [hE, if_neg (by simp [hc]), if_neg (by simp [b1]), if_pos b2]
          exact Lib.hid ⟨e, by rw [hS, e]; rfl⟩
        clear hE hS hc b1 b2 hcp htr hh
        go_enter Try.func10, Try.ntmps10
        go_wp2_with fail
        refine (ck.out _ (by (repeat (first | (with_reducible exact Below.refl _ _) | ((with_reducible refine below_alloc ?_ ?_ _); · (first | omega | (simp; done) | (simp; omega))) | ((with_reducible refine below_setCell ?_ ?_ _); · (first | omega | (simp; done) | (simp; omega))) | (with_reducible refine Below.drew ?_) | (with_reducible refine below_drewN ?_ _) | ((with_reducible refine below_call (by assumption) ?_ ?_); · (first | omega | (simp; done) | (simp; omega))))))).mono ?_; rintro e w1 ⟨rfl, hb1⟩
        obtain ⟨hk1, hf1, hz1⟩ := bcellN (n := w.heap.size + 2) (by (try simp only [World.size_drew, World.size_alloc, World.size_setCell]); omega) hb1; have hz1_0 : w.heap.size < w1.heap.size := (by omega); have hz1_1 : w.heap.size + 1 < w1.heap.size := (by omega)
        go_wp2_with fail
        refine (c1 _).mono ?_; rintro e w2 ⟨rfl, hb2⟩
        obtain ⟨hk2, hf2, hz2⟩ := bcellN (n := w.heap.size + 2) (by (try simp only [World.size_drew, World.size_alloc, World.size_setCell]); omega) hb2; have hz2_0 : w.heap.size < w2.heap.size := (by omega); have hz2_1 : w.heap.size + 1 < w2.heap.size := (by omega)
        go_wp2_with fail
        refine (c2 _).mono ?_; rintro e w3 ⟨rfl, hb3⟩
        obtain ⟨hk3, hf3, hz3⟩ := bcellN (n := w.heap.size + 2) (by (try simp only [World.size_drew, World.size_alloc, World.size_setCell]); omega) hb3; have hz3_0 : w.heap.size < w3.heap.size := (by omega); have hz3_1 : w.heap.size + 1 < w3.heap.size := (by omega)
        go_wp2_with fail
        refine bodyPost_ret (v := .tuple #[.agg #[.slice pn l.length cn, .slice ph hd.length ch, .slice pt tl.length ct], .int .i64 8]) (by simp [results, Try.results10, go_sem, hk1, hz1_0, hz1_1, hk2, hz2_0, hz2_1, hk3, hz3_0, hz3_1]) rfl ⟨_, _, _, by rw [hf.out.1], .inl ⟨rfl, rfl, rfl, hf.out.2⟩, ?_⟩
        (repeat (first | (with_reducible exact Below.refl _ _) | ((with_reducible refine below_alloc ?_ ?_ _); · (first | omega | (simp; done) | (simp; omega))) | ((with_reducible refine below_setCell ?_ ?_ _); · (first | omega | (simp; done) | (simp; omega))) | (with_reducible refine Below.drew ?_) | (with_reducible refine below_drewN ?_ _) | ((with_reducible refine below_call (by assumption) ?_ ?_); · (first | omega | (simp; done) | (simp; omega)))))
      · rw [b2] at c2
        have b1' := b1
        have b2' := b2
        rw [inB_iff] at b1' b2'
        obtain ⟨k, rfl⟩ : ∃ k : Nat, i = k := ⟨i.toNat, by omega⟩
        obtain ⟨x, rfl⟩ : ∃ x : Nat, a = x := ⟨a.toNat, by omega⟩
        have hkl : k < hd.length := by omega
        have hxl : x < l.length := by omega
        have hxl' : (x : Int) < l.length := by omega
        have hx0 : (0 : Int) ≤ x := by omega
        obtain ⟨bn, on, rfl, d0, d1, d2⟩ := HN.out x hxl
        have hna := nodAt_lt l x hxl
        obtain ⟨y, hy⟩ : ∃ y, l[x].1 = y := ⟨_, rfl⟩
        rw [hy] at d0
        have hny : (nodAt l x).1 = y := by rw [hna]; exact hy
        have HD := Lib.hid d0
        obtain ⟨hln, hkn, htl, hR, -, -⟩ := hcp hc
        have htt := htr hc k hkl
        rw [Int.toNat_natCast, hny] at hE
        rw [Int.toNat_natCast, Int.toNat_natCast] at hS
        have HT3 := Lib.hid htl
        clear d0 d1 d2 hna hy htr hcp hR hny htl
        by_cases hy1 : y = -1
        · subst hy1
          have hf : Hid (pushE (l, hd, tl) k x = 0 ∧ pushS (l, hd, tl) k x = putP (l, hd, tl) k x) := by
            have e : pushE (l, hd, tl) k x = 0 := by rw [hE, if_neg (by simp [hc]), if_neg (by simp [b1]), if_neg (by simp [b2]), if_pos rfl]
            exact Lib.hid ⟨e, by rw [hS, if_pos e]⟩
          have CP : Hid (∀ W gn gh gt an ah at' (hW : OwnLS W (w.heap.size + 2) l.length hd.length gn gh gt an ah at' (l, hd, tl)) (hBW : w.heap.size + 2 ≤ W.heap.size), _) := Lib.hid (fun W gn gh gt an ah at' hW hBW => putbehind_any (w.heap.size + 2) l.length hd.length gn gh gt an ah at' (l, hd, tl) k x W hW hBW hkl hxl htt hln.2 hkn.2)
          clear hE hS hc b1 b2 hh b1' b2' htt
          go_enter Try.func10, Try.ntmps10
          go_wp2_with fail
          refine (ck.out _ (by (repeat (first | (with_reducible exact Below.refl _ _) | ((with_reducible refine below_alloc ?_ ?_ _); · (first | omega | (simp; done) | (simp; omega))) | ((with_reducible refine below_setCell ?_ ?_ _); · (first | omega | (simp; done) | (simp; omega))) | (with_reducible refine Below.drew ?_) | (with_reducible refine below_drewN ?_ _) | ((with_reducible refine below_call (by assumption) ?_ ?_); · (first | omega | (simp; done) | (simp; omega))))))).mono ?_; rintro e w1 ⟨rfl, hb1⟩
          obtain ⟨hk1, hf1, hz1⟩ := bcellN (n := w.heap.size + 2) (by (try simp only [World.size_drew, World.size_alloc, World.size_setCell]); omega) hb1; have hz1_0 : w.heap.size < w1.heap.size := (by omega); have hz1_1 : w.heap.size + 1 < w1.heap.size := (by omega)
          go_wp2_with fail
          refine (c1 _).mono ?_; rintro e w2 ⟨rfl, hb2⟩
          obtain ⟨hk2, hf2, hz2⟩ := bcellN (n := w.heap.size + 2) (by (try simp only [World.size_drew, World.size_alloc, World.size_setCell]); omega) hb2; have hz2_0 : w.heap.size < w2.heap.size := (by omega); have hz2_1 : w.heap.size + 1 < w2.heap.size := (by omega)
          go_wp2_with fail
          refine (c2 _).mono ?_; rintro e w3 ⟨rfl, hb3⟩
          obtain ⟨hk3, hf3, hz3⟩ := bcellN (n := w.heap.size + 2) (by (try simp only [World.size_drew, World.size_alloc, World.size_setCell]); omega) hb3; have hz3_0 : w.heap.size < w3.heap.size := (by omega); have hz3_1 : w.heap.size + 1 < w3.heap.size := (by omega)
          have hB3 : Below w.heap.size w w3 := by (repeat (first | (with_reducible exact Below.refl _ _) | ((with_reducible refine below_alloc ?_ ?_ _); · (first | omega | (simp; done) | (simp; omega))) | ((with_reducible refine below_setCell ?_ ?_ _); · (first | omega | (simp; done) | (simp; omega))) | (with_reducible refine Below.drew ?_) | (with_reducible refine below_drewN ?_ _) | ((with_reducible refine below_call (by assumption) ?_ ?_); · (first | omega | (simp; done) | (simp; omega)))))
          have c0 := (hB3.cell (p := ⟨bn, on + x * 3, none⟩) (World.block_lt_of_cell? _ _ HD.out)).trans HD.out
          go_wp2_with fail
          refine (cc.out _ (by (repeat (first | (with_reducible exact Below.refl _ _) | ((with_reducible refine below_alloc ?_ ?_ _); · (first | omega | (simp; done) | (simp; omega))) | ((with_reducible refine below_setCell ?_ ?_ _); · (first | omega | (simp; done) | (simp; omega))) | (with_reducible refine Below.drew ?_) | (with_reducible refine below_drewN ?_ _) | ((with_reducible refine below_call (by assumption) ?_ ?_); · (first | omega | (simp; done) | (simp; omega)))))) hln hkn HT3.out).mono ?_; rintro e w4 ⟨gn, gh, gt, an, ah, at', rfl, hO, hb4⟩
          obtain ⟨hk4, hf4, hz4⟩ := bcellN (n := w.heap.size + 2) (by (try simp only [World.size_drew, World.size_alloc, World.size_setCell]); omega) hb4; have hz4_0 : w.heap.size < w4.heap.size := (by omega); have hz4_1 : w.heap.size + 1 < w4.heap.size := (by omega)
          (try dsimp only at hO)
          obtain ⟨⟨b1, _⟩, ⟨b2, _⟩, ⟨b3, _⟩⟩ := hO.lt
          (try simp only [World.size_drew, World.size_alloc, World.size_setCell] at b1 b2 b3)
          have BB : w.heap.size + 2 ≤ gn ∧ w.heap.size + 2 ≤ gh ∧ w.heap.size + 2 ≤ gt := by omega
          have HO := Lib.hid (hO.mono (B' := w.heap.size + 2) (by (try simp only [World.size_drew, World.size_alloc, World.size_setCell]); omega))
          clear hO b1 b2 b3
          have n1 : w.heap.size ≠ gn := by omega
          have n2 : w.heap.size ≠ gh := by omega
          have n3 : w.heap.size ≠ gt := by omega
          have m1 : w.heap.size + 1 ≠ gn := by omega
          have m2 : w.heap.size + 1 ≠ gh := by omega
          have m3 : w.heap.size + 1 ≠ gt := by omega
          go_wp2_with fail
          refine gen_calls (F := fun wt => (wt.cell? ⟨w.heap.size, 0, none⟩ = some (.slice (some ⟨gn, 0, none⟩) l.length an) ∧ wt.cell? ⟨w.heap.size, 1, none⟩ = some (.slice (some ⟨gh, 0, none⟩) hd.length ah) ∧ wt.cell? ⟨w.heap.size, 2, none⟩ = some (.slice (some ⟨gt, 0, none⟩) hd.length at')) ∧ ((wt.cell? ⟨w.heap.size + 1, 0, none⟩ = some (.slice none 0 0) ∧ wt.cell? ⟨w.heap.size + 1, 1, none⟩ = some (.slice none 0 0) ∧ wt.cell? ⟨w.heap.size + 1, 2, none⟩ = some (.slice none 0 0)) ∧ (wt.frozen? ⟨w.heap.size + 1, 0, none⟩ = false ∧ wt.frozen? ⟨w.heap.size + 1, 1, none⟩ = false ∧ wt.frozen? ⟨w.heap.size + 1, 2, none⟩ = false)) ∧ OwnLS wt (w.heap.size + 2) l.length hd.length gn gh gt an ah at' (l, hd, tl) ∧ Below w.heap.size w wt ∧ w.heap.size + 2 ≤ wt.heap.size) ⟨⟨by simp [go_sem, hk1, hz1_0, hz1_1, hk2, hz2_0, hz2_1, hk3, hz3_0, hz3_1, hk4, hz4_0, hz4_1], by simp [go_sem, hk1, hz1_0, hz1_1, hk2, hz2_0, hz2_1, hk3, hz3_0, hz3_1, hk4, hz4_0, hz4_1], by simp [go_sem, hk1, hz1_0, hz1_1, hk2, hz2_0, hz2_1, hk3, hz3_0, hz3_1, hk4, hz4_0, hz4_1]⟩, ⟨⟨by simp [go_sem, hk1, hz1_0, hz1_1, hk2, hz2_0, hz2_1, hk3, hz3_0, hz3_1, hk4, hz4_0, hz4_1], by simp [go_sem, hk1, hz1_0, hz1_1, hk2, hz2_0, hz2_1, hk3, hz3_0, hz3_1, hk4, hz4_0, hz4_1], by simp [go_sem, hk1, hz1_0, hz1_1, hk2, hz2_0, hz2_1, hk3, hz3_0, hz3_1, hk4, hz4_0, hz4_1]⟩, ⟨by simp [go_sem, hf1, hz1_0, hz1_1, hf2, hz2_0, hz2_1, hf3, hz3_0, hz3_1, hf4, hz4_0, hz4_1], by simp [go_sem, hf1, hz1_0, hz1_1, hf2, hz2_0, hz2_1, hf3, hz3_0, hz3_1, hf4, hz4_0, hz4_1], by simp [go_sem, hf1, hz1_0, hz1_1, hf2, hz2_0, hz2_1, hf3, hz3_0, hz3_1, hf4, hz4_0, hz4_1]⟩⟩, ((HO.out.keep _ (by omega)).keep _ (by omega)).keep _ (by omega), by (repeat (first | (with_reducible exact Below.refl _ _) | ((with_reducible refine below_alloc ?_ ?_ _); · (first | omega | (simp; done) | (simp; omega))) | ((with_reducible refine below_setCell ?_ ?_ _); · (first | omega | (simp; done) | (simp; omega))) | (with_reducible refine Below.drew ?_) | (with_reducible refine below_drewN ?_ _) | ((with_reducible refine below_call (by assumption) ?_ ?_); · (first | omega | (simp; done) | (simp; omega))))), by (try simp only [World.size_drew, World.size_alloc, World.size_setCell]); omega⟩ (fun W hF => ?_)
          obtain ⟨⟨e0, e1, e2⟩, ⟨⟨r0, r1, r2⟩, ⟨z0, z1, z2⟩⟩, hO, hB, hz⟩ := hF
          clear hk1 hf1 hz1 hz1_0 hz1_1 hb1 hk2 hf2 hz2 hz2_0 hz2_1 hb2 hk3 hf3 hz3 hz3_0 hz3_1 hb3 hk4 hf4 hz4 hz4_0 hz4_1 hb4 HO
          refine (CP.out W gn gh gt an ah at' hO (by omega)).mono ?_; rintro e w20 ⟨rfl, hO20, hu20, hb20⟩
          have hs20 := hb20.size
          replace e0 := hu20.cell e0 n1 n2 n3
          replace e1 := hu20.cell e1 n1 n2 n3
          replace e2 := hu20.cell e2 n1 n2 n3
          replace r0 := hu20.cell r0 m1 m2 m3
          replace r1 := hu20.cell r1 m1 m2 m3
          replace r2 := hu20.cell r2 m1 m2 m3
          replace z0 := (hu20.frozen (o := 0) (by omega) m1 m2 m3).trans z0
          replace z1 := (hu20.frozen (o := 1) (by omega) m1 m2 m3).trans z1
          replace z2 := (hu20.frozen (o := 2) (by omega) m1 m2 m3).trans z2
          replace hB := hB.trans (hb20.mono (by omega))
          have HH20 := Lib.hid hO20
          clear hu20 hb20 
          clear hO
          clear hO20
          go_wp2_with fail
          refine bodyPost_ret (v := .tuple #[.agg #[.slice (some ⟨gn, 0, none⟩) l.length an, .slice (some ⟨gh, 0, none⟩) hd.length ah, .slice (some ⟨gt, 0, none⟩) hd.length at'], .int .i64 0]) (by simp [results, Try.results10, go_sem, r0, r1, r2, z0, z1, z2]) rfl ⟨_, _, _, by rw [hf.out.1], .inr ⟨l.length, hd.length, gn, gh, gt, an, ah, at', rfl, rfl, rfl, ?_⟩, ?_⟩
          · rw [hf.out.2]; exact (((HH20.out.keep _ (by omega)).keep _ (by omega)).keep _ (by omega)).mono (by omega)
          · (repeat (first | (with_reducible exact Below.refl _ _) | ((with_reducible refine below_alloc ?_ ?_ _); · (first | omega | (simp; done) | (simp; omega))) | ((with_reducible refine below_setCell ?_ ?_ _); · (first | omega | (simp; done) | (simp; omega))) | (with_reducible refine Below.drew ?_) | (with_reducible refine below_drewN ?_ _) | ((with_reducible refine below_call (by assumption) ?_ ?_); · (first | omega | (simp; done) | (simp; omega)))))
        · have hy2 : (y != (-1 : Int)) = true := by simp [hy1]
          have hf : Hid (pushE (l, hd, tl) k x = 13 ∧ pushS (l, hd, tl) k x = (l, hd, tl)) := by
            have e : pushE (l, hd, tl) k x = 13 := by rw [hE, if_neg (by simp [hc]), if_neg (by simp [b1]), if_neg (by simp [b2]), if_neg hy1]
            exact Lib.hid ⟨e, by rw [hS, e]; rfl⟩
          clear hE hS hc b1 b2 hh b1' b2' htt hy1
          go_enter Try.func10, Try.ntmps10
          go_wp2_with fail
          refine (ck.out _ (by (repeat (first | (with_reducible exact Below.refl _ _) | ((with_reducible refine below_alloc ?_ ?_ _); · (first | omega | (simp; done) | (simp; omega))) | ((with_reducible refine below_setCell ?_ ?_ _); · (first | omega | (simp; done) | (simp; omega))) | (with_reducible refine Below.drew ?_) | (with_reducible refine below_drewN ?_ _) | ((with_reducible refine below_call (by assumption) ?_ ?_); · (first | omega | (simp; done) | (simp; omega))))))).mono ?_; rintro e w1 ⟨rfl, hb1⟩
          obtain ⟨hk1, hf1, hz1⟩ := bcellN (n := w.heap.size + 2) (by (try simp only [World.size_drew, World.size_alloc, World.size_setCell]); omega) hb1; have hz1_0 : w.heap.size < w1.heap.size := (by omega); have hz1_1 : w.heap.size + 1 < w1.heap.size := (by omega)
          go_wp2_with fail
          refine (c1 _).mono ?_; rintro e w2 ⟨rfl, hb2⟩
          obtain ⟨hk2, hf2, hz2⟩ := bcellN (n := w.heap.size + 2) (by (try simp only [World.size_drew, World.size_alloc, World.size_setCell]); omega) hb2; have hz2_0 : w.heap.size < w2.heap.size := (by omega); have hz2_1 : w.heap.size + 1 < w2.heap.size := (by omega)
          go_wp2_with fail
          refine (c2 _).mono ?_; rintro e w3 ⟨rfl, hb3⟩
          obtain ⟨hk3, hf3, hz3⟩ := bcellN (n := w.heap.size + 2) (by (try simp only [World.size_drew, World.size_alloc, World.size_setCell]); omega) hb3; have hz3_0 : w.heap.size < w3.heap.size := (by omega); have hz3_1 : w.heap.size + 1 < w3.heap.size := (by omega)
          have hB3 : Below w.heap.size w w3 := by (repeat (first | (with_reducible exact Below.refl _ _) | ((with_reducible refine below_alloc ?_ ?_ _); · (first | omega | (simp; done) | (simp; omega))) | ((with_reducible refine below_setCell ?_ ?_ _); · (first | omega | (simp; done) | (simp; omega))) | (with_reducible refine Below.drew ?_) | (with_reducible refine below_drewN ?_ _) | ((with_reducible refine below_call (by assumption) ?_ ?_); · (first | omega | (simp; done) | (simp; omega)))))
          have c0 := (hB3.cell (p := ⟨bn, on + x * 3, none⟩) (World.block_lt_of_cell? _ _ HD.out)).trans HD.out
          go_wp2_with fail
          refine bodyPost_ret (v := .tuple #[.agg #[.slice (some ⟨bn, on, none⟩) l.length cn, .slice ph hd.length ch, .slice pt tl.length ct], .int .i64 13]) (by simp [results, Try.results10, go_sem, hk1, hz1_0, hz1_1, hk2, hz2_0, hz2_1, hk3, hz3_0, hz3_1]) rfl ⟨_, _, _, by rw [hf.out.1], .inl ⟨rfl, rfl, rfl, hf.out.2⟩, ?_⟩
          (repeat (first | (with_reducible exact Below.refl _ _) | ((with_reducible refine below_alloc ?_ ?_ _); · (first | omega | (simp; done) | (simp; omega))) | ((with_reducible refine below_setCell ?_ ?_ _); · (first | omega | (simp; done) | (simp; omega))) | (with_reducible refine Below.drew ?_) | (with_reducible refine below_drewN ?_ _) | ((with_reducible refine below_call (by assumption) ?_ ?_); · (first | omega | (simp; done) | (simp; omega)))))
  · have hf : Hid (pushE (l, hd, tl) i a = chkL (l, hd, tl) ∧ pushS (l, hd, tl) i a = (l, hd, tl)) := by
      have e : pushE (l, hd, tl) i a = chkL (l, hd, tl) := by rw [hE, if_pos hc]
      exact Lib.hid ⟨e, by rw [hS, e, if_neg hc]⟩
    have hc1 : (chkL (l, hd, tl) != 0) = true := by simpa using hc
    clear hE hS hc hcp htr hh
    go_enter Try.func10, Try.ntmps10
    go_wp2_with fail
    refine (ck.out _ (by (repeat (first | (with_reducible exact Below.refl _ _) | ((with_reducible refine below_alloc ?_ ?_ _); · (first | omega | (simp; done) | (simp; omega))) | ((with_reducible refine below_setCell ?_ ?_ _); · (first | omega | (simp; done) | (simp; omega))) | (with_reducible refine Below.drew ?_) | (with_reducible refine below_drewN ?_ _) | ((with_reducible refine below_call (by assumption) ?_ ?_); · (first | omega | (simp; done) | (simp; omega))))))).mono ?_; rintro e w1 ⟨rfl, hb1⟩
    obtain ⟨hk1, hf1, hz1⟩ := bcellN (n := w.heap.size + 2) (by (try simp only [World.size_drew, World.size_alloc, World.size_setCell]); omega) hb1; have hz1_0 : w.heap.size < w1.heap.size := (by omega); have hz1_1 : w.heap.size + 1 < w1.heap.size := (by omega)
    go_wp2_with fail
    refine bodyPost_ret (v := .tuple #[.agg #[.slice pn l.length cn, .slice ph hd.length ch, .slice pt tl.length ct], .int .i64 (chkL (l, hd, tl))]) (by simp [results, Try.results10, go_sem, hk1, hz1_0, hz1_1]) rfl ⟨_, _, _, by rw [hf.out.1], .inl ⟨rfl, rfl, rfl, hf.out.2⟩, ?_⟩
    (repeat (first | (with_reducible exact Below.refl _ _) | ((with_reducible refine below_alloc ?_ ?_ _); · (first | omega | (simp; done) | (simp; omega))) | ((with_reducible refine below_setCell ?_ ?_ _); · (first | omega | (simp; done) | (simp; omega))) | (with_reducible refine Below.drew ?_) | (with_reducible refine below_drewN ?_ _) | ((with_reducible refine below_call (by assumption) ?_ ?_); · (first | omega | (simp; done) | (simp; omega)))))
end Go.Proofs.Ytkcenadenmkgnaa
