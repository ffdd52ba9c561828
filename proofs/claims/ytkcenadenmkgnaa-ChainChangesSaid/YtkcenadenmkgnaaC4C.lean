/- Contracts of layer 4, the document's: walk. -/
import Derived.Test.YtkcenadenmkgnaaC4B
import Derived.Laws.AppendOwn
import Derived.Maps.AppendAt
namespace Go.Proofs.Ytkcenadenmkgnaa
open Go.RowKit
set_option linter.unusedVariables false
set_option linter.unusedSimpArgs false

/-- the place at a number (one in no list, beyond them) -/
def nodAt (l : List Nod) (j : Nat) : Nod := l.getD j (-1, -1, -1)
theorem nodAt_lt (l : List Nod) (j : Nat) (h : j < l.length) : nodAt l j = l[j] := by unfold nodAt; simp [List.getD, h]
/-- the places from one on, as far as so many steps go -/
def walkF (l : List Nod) : Nat → Int → List Int
  | 0, _ => []
  | k + 1, a => if a < 0 then [] else a :: walkF l k (nodAt l a.toNat).2.1
def walkN (st : LSt) (i : Nat) : List Int := walkF st.1 (st.1.length + 1) (st.2.1.getD i (-1))
theorem walkF_len (l : List Nod) : ∀ (k : Nat) (a : Int), (walkF l k a).length ≤ k := by
  intro k
  induction k with
  | zero => intro a; exact Nat.le_refl _
  | succ k ih =>
    intro a
    unfold walkF
    split
    · exact Nat.zero_le _
    · have := ih (nodAt l a.toNat).2.1
      simp; omega
theorem walkF_neg (l : List Nod) (k : Nat) (a : Int) (h : a < 0) : walkF l k a = [] := by
  cases k with
  | zero => rfl
  | succ k => unfold walkF; rw [if_pos h]
theorem links_nod {st : LSt} (h : linksB st = true) {j : Nat} (hj : j < st.1.length) : (-1 ≤ st.1[j].1 ∧ st.1[j].1 < st.2.1.length) ∧ (-1 ≤ st.1[j].2.1 ∧ st.1[j].2.1 < st.1.length) ∧ (-1 ≤ st.1[j].2.2 ∧ st.1[j].2.2 < st.1.length) := by
  unfold linksB at h
  rw [Bool.and_eq_true, List.all_eq_true] at h
  have := h.1 _ (List.getElem_mem hj)
  unfold nodOk at this
  rw [Bool.and_eq_true, Bool.and_eq_true, inB_iff, inB_iff, inB_iff] at this
  omega
theorem links_head {st : LSt} (h : linksB st = true) {j : Nat} (hj : j < st.2.1.length) : -1 ≤ st.2.1[j] ∧ st.2.1[j] < st.1.length := by
  unfold linksB at h
  rw [Bool.and_eq_true, Bool.and_eq_true, List.all_eq_true, List.all_eq_true] at h
  have := h.2.1 _ (List.getElem_mem hj)
  rw [inB_iff] at this
  omega
theorem links_tail {st : LSt} (h : linksB st = true) {j : Nat} (hj : j < st.2.2.length) : -1 ≤ st.2.2[j] ∧ st.2.2[j] < st.1.length := by
  unfold linksB at h
  rw [Bool.and_eq_true, Bool.and_eq_true] at h
  have := List.all_eq_true.1 h.2.2 _ (List.getElem_mem hj)
  rw [inB_iff] at this
  omega
def lenV : Value → Nat
  | .slice _ n _ => n
  | _ => 0
theorem rowI_shape {w : World} {B : Nat} {v : Value} {l : List Int} (h : OwnI w B v l) : ∃ ao cap, v = .slice ao l.length cap := by
  rcases h.2 with ⟨hv, h0⟩ | ⟨g, cap, cur, hv, _⟩
  · exact ⟨none, 0, by rw [hv, h0]⟩
  · exact ⟨_, _, hv⟩

set_option maxRecDepth 100000 in
set_option maxHeartbeats 4000000 in
theorem walk_any (vn vh vt : Value) (st : LSt) (i : Nat) (w : World) (hv : IsLS w vn vh vt st) (h1 : st.1.length ≤ 1048576) (h2 : st.2.1.length ≤ 1048576) (hR : linksB st = true) (hi : i < st.2.1.length) :
    Calls Try.prog 55 #[.agg #[vn, vh, vt], .int .i64 i] w fun e w' => ∃ v, e = .returned v ∧ OwnI w' w.heap.size v (walkN st i) ∧ Below w.heap.size w w' := by
  obtain ⟨i0, hi0, hj0, hj1, hj2⟩ := info_parts info_int
  have hhd := links_head hR hi
  have hnd := fun j (hj : j < st.1.length) => (links_nod hR hj).2.1
  obtain ⟨l, hd, tl⟩ := st
  replace h1 : l.length ≤ 1048576 := h1
  replace h2 : hd.length ≤ 1048576 := h2
  replace hi : i < hd.length := hi
  replace hhd : -1 ≤ hd[i] ∧ hd[i] < l.length := hhd
  replace hnd : ∀ j (hj : j < l.length), -1 ≤ l[j].2.1 ∧ l[j].2.1 < l.length := hnd
  obtain ⟨⟨pn, cn, rfl, hn⟩, ⟨ph, ch, rfl, hh⟩, ⟨pt, ct, rfl, ht⟩⟩ := hv
  have HN := Lib.hid hn
  have HND := Lib.hid hnd
  obtain ⟨bh, oh, rfl, dh⟩ := hh i hi
  have hi' : (i : Int) < hd.length := by omega
  have HWN : Hid (walkN (l, hd, tl) i = walkF l (l.length + 1) hd[i]) := Lib.hid (by unfold walkN; simp [List.getD, hi])
  obtain ⟨a, ha⟩ : ∃ a, hd[i] = a := ⟨_, rfl⟩
  rw [ha] at dh HWN hhd
  have HA := Lib.hid hhd
  clear hn hh ht hnd ha hR hhd
  go_enter Try.func55, Try.ntmps55
  have dh' : (w.alloc (.cells #[.slice pn l.length cn, .slice (some ⟨bh, oh, none⟩) hd.length ch, .slice pt tl.length ct] 25)).cell? ⟨bh, oh + i, none⟩ = some (.int .i64 a) := (((Below.refl _ w).alloc (Nat.le_refl _) _).cell (p := ⟨bh, oh + i, none⟩) (World.block_lt_of_cell? _ _ dh)).trans dh
  go_wp2
  refine gen_world (F := fun wt => (wt.cell? ⟨w.heap.size, 0, none⟩ = some (.slice pn l.length cn)) ∧ Below w.heap.size w wt ∧ w.heap.size < wt.heap.size) ⟨by simp [go_sem], by (repeat (first | (with_reducible exact Below.refl _ _) | ((with_reducible refine below_alloc ?_ ?_ _); · (first | omega | (simp; done) | (simp; omega))) | ((with_reducible refine below_setCell ?_ ?_ _); · (first | omega | (simp; done) | (simp; omega))) | (with_reducible refine Below.drew ?_) | (with_reducible refine below_drewN ?_ _) | ((with_reducible refine below_call (by assumption) ?_ ?_); · (first | omega | (simp; done) | (simp; omega))))), by simp⟩ (fun wt hF => ?_)
  obtain ⟨e0, hB, hz⟩ := hF
  have HE := Lib.hid e0
  have hl1 : (l.length : Int) ≤ 1048576 := by omega
  clear e0 dh dh'
  go_loopw [5, 6] (fun u y wr => ∃ (X : List Int) (a : Int), y = .int .i64 a ∧ OwnI wr wt.heap.size u X ∧ X.length ≤ l.length + 1 ∧ (-1 ≤ a ∧ a < l.length) ∧ X ++ walkF l (l.length + 1 - X.length) a = walkN (l, hd, tl) i ∧ Fr wt wr) (fun u _ _ => l.length + 1 - lenV u)
  case atStart => exact ⟨[], a, rfl, OwnI.nil _ _, by simp, HA.out, by rw [HWN.out]; rfl, Fr.refl _⟩
  case round =>
    obtain ⟨X, a, rfl, hown, hX, ha, heq, hF⟩ := hrel
    have e0 := Fr.at hF HE.out
    have hs := Below.size hF
    have HQ := Lib.hid heq
    obtain ⟨ao, cp, hve⟩ := rowI_shape hown
    subst hve
    have HO := Lib.hid hown
    have HF := Lib.hid hF
    clear hown heq hF
    by_cases hxl : X.length = l.length + 1
    · have hxl' : (l.length : Int) < X.length := by omega
      have HX := Lib.hid hxl
      clear hxl
      go_wp2
      go_ret
      refine ⟨_, rfl, ?_, Fr.fin hB HF.out⟩
      have e : walkN (l, hd, tl) i = X := by rw [← HQ.out, HX.out, Nat.sub_self]; simp [walkF]
      rw [e]; exact HO.out.mono (by omega)
    · have hxl' : (X.length : Int) ≤ l.length := by omega
      by_cases han : a < 0
      · go_wp2
        go_ret
        refine ⟨_, rfl, ?_, Fr.fin hB HF.out⟩
        have e : walkN (l, hd, tl) i = X := by rw [← HQ.out, walkF_neg _ _ _ han]; simp
        rw [e]; exact HO.out.mono (by omega)
      · obtain ⟨k, rfl⟩ : ∃ k : Nat, a = k := ⟨a.toNat, by omega⟩
        have hk0 : (0 : Int) ≤ k := by omega
        have hkl : k < l.length := by omega
        have hkl' : (k : Int) < l.length := by omega
        obtain ⟨b, off, rfl, d0, d1, d2⟩ := HN.out k hkl
        have HD0 := Lib.hid d1
        have HD := Lib.hid (Fr.at (Fr.fin hB HF.out) d1)
        have hbw : b < wr.heap.size := World.block_lt_of_cell? _ _ HD.out
        have hnx := HND.out k hkl
        have hna := nodAt_lt l k hkl
        obtain ⟨y, hy⟩ : ∃ y, l[k].2.1 = y := ⟨_, rfl⟩
        have HNA : Hid ((nodAt l k).2.1 = y) := Lib.hid (by rw [hna]; exact hy)
        rw [hy] at HD HD0 hnx
        have HNX := Lib.hid hnx
        clear d0 d1 d2 han hna hy hnx ha
        have hne : ¬ X.length = l.length + 1 := hxl
        have HNE := Lib.hid hne
        clear hxl hne
        have HDW := Lib.hid (show w.cell? ⟨b, off + k * 3 + 1, none⟩ = some (.int .i64 y) from HD0.out)
        go_wp2_with (at_builtin; (conv => skip); refine stopHere ?_)
        refine And.intro ?_ trivial
        refine wpList_append_own _ rfl _ _ 23 rfl wt.heap.size 3 i0 (.int .i64 0) 1 8 Try.underlying23 hi0 hj0 hj1 hj2 rfl (by decide) _ X.length (X.map (Value.int .i64)) rfl (HO.out.alloc _) ⟨wr.heap.size, 0, none⟩ 1 1 [Value.int .i64 k] rfl rfl (cell_one_new _ _ _) (by simp [Value.oneCell']) (by unfold maxLen; omega) (by omega) (by simp; omega) ?_
        intro v' w3 hown' hgr _
        have hb3 : Below wt.heap.size wr w3 := ((Below.refl _ _).alloc (by omega) _).grown hgr (by simp; omega) (fun q hq => (HO.out.lt q hq).1)
        have hF3 : Fr wt w3 := Below.trans HF.out hb3
        have c1 := Fr.at (Fr.fin hB hF3) HDW.out
        have x0 := Fr.at hF3 HE.out
        have hown3 : OwnI w3 wt.heap.size v' (X ++ [(k : Int)]) := by
          show World.ownsRow _ _ _ _ _ _ _
          rw [List.length_append, List.map_append]; exact hown'
        have H3 := Lib.hid (And.intro hF3 hown3)
        clear hown' hgr hown3 hF3 hb3
        go_wp2_with fail
        go_roundw
        case rel =>
          refine ⟨X ++ [(k : Int)], y, rfl, H3.out.2, by simp; omega, HNX.out, ?_, H3.out.1⟩
          rw [← HQ.out, List.append_assoc]
          congr 1
          have e : l.length + 1 - X.length = (l.length + 1 - (X ++ [(k : Int)]).length) + 1 := by simp; omega
          rw [e]
          conv => rhs; unfold walkF
          rw [if_neg (by omega), Int.toNat_natCast, HNA.out]; rfl
        case measure =>
          obtain ⟨ao', cp', hv'⟩ := rowI_shape H3.out.2
          subst hv'
          simp [lenV]; omega
end Go.Proofs.Ytkcenadenmkgnaa
