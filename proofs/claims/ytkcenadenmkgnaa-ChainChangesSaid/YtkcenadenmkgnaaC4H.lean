/- Layer 4: a row of rows, each in memory of its own; the document's: all. -/
import Derived.Test.YtkcenadenmkgnaaC4F
import Derived.Maps.AppendAt
namespace Go.Proofs.Ytkcenadenmkgnaa
open Go.RowKit
set_option linter.unusedVariables false
set_option linter.unusedSimpArgs false

theorem info_ints : (Try.prog.info? 23).map (fun i => (i.zero, i.size, i.bytes)) = some (some (.slice none 0 0), 1, 24) := by kernel_rfl
theorem row_grown {w w' : World} {B : Nat} {E : TypeId} {z n : Nat} {v : Value} {xs : List Value} {row : Option Nat} (h : w.ownsRow B E z v n xs) (hg : w.grownBy w' row) (hne : ∀ q, v.ownBlock = some q → some q ≠ row) : w'.ownsRow B E z v n xs := by
  have hlt := h.lt
  obtain ⟨h1, h2⟩ := h
  refine ⟨h1, ?_⟩
  rcases h2 with h2 | ⟨g, cap, cur, hv, hB, hc, r⟩
  · exact .inl h2
  · exact .inr ⟨g, cap, cur, hv, hB, (hg.block g (hlt g (by rw [hv]; rfl)).2 (hne g (by rw [hv]; rfl))).trans hc, r⟩
/-- v is a row of the rows vs, each of the call's own and in a block of its own, that hold these numbers -/
structure OwnII (w : World) (B : Nat) (v : Value) (vs : List Value) (L : List (List Int)) : Prop where
  row : w.ownsRow B 23 1 v L.length vs
  inn : ∀ k (h : k < L.length), ∃ u, vs[k]? = some u ∧ OwnI w B u L[k]
  apart : ∀ (j k : Nat) (u u' : Value) (q : Nat), vs[j]? = some u → vs[k]? = some u' → u.ownBlock = some q → u'.ownBlock = some q → j = k
  off : ∀ (k : Nat) (u : Value) (q : Nat), vs[k]? = some u → u.ownBlock = some q → v.ownBlock = some q → False
section
variable {w w1 w3 : World} {B : Nat} {v v' : Value} {vs : List Value} {L : List (List Int)}
theorem OwnII.nil (w : World) (B : Nat) : OwnII w B (.slice none 0 0) [] [] :=
  ⟨World.ownsRow_nil w B _ _, (fun k h => by cases h), (fun j k u u' q h => by cases h), (fun k u q h => by cases h)⟩
theorem OwnII.call (h : OwnII w B v vs L) (hb : Below w.heap.size w w1) : OwnII w1 B v vs L :=
  ⟨h.row.call' hb, fun k hk => by obtain ⟨u, h1, h2⟩ := h.inn k hk; exact ⟨u, h1, h2.call hb⟩, h.apart, h.off⟩
theorem OwnII.len (h : OwnII w B v vs L) : vs.length = L.length := by have := h.row.1; omega
theorem OwnII.mono {B' : Nat} (h : OwnII w B v vs L) (hB : B' ≤ B) : OwnII w B' v vs L := by
  refine ⟨?_, fun k hk => ?_, h.apart, h.off⟩
  · obtain ⟨h1, h2⟩ := h.row
    refine ⟨h1, ?_⟩
    rcases h2 with h2 | ⟨g, cap, cur, hv, hb, r⟩
    · exact .inl h2
    · exact .inr ⟨g, cap, cur, hv, Nat.le_trans hB hb, r⟩
  · obtain ⟨u, h1, h2⟩ := h.inn k hk
    exact ⟨u, h1, h2.mono hB⟩
/-- the blocks of the rows lay before -/
theorem OwnII.lt (h : OwnII w B v vs L) {k : Nat} {u : Value} {q : Nat} (hk : vs[k]? = some u) (hq : u.ownBlock = some q) : B ≤ q ∧ q < w.heap.size := by
  have hkl : k < L.length := by rw [← h.len]; exact (List.getElem?_eq_some_iff.1 hk).1
  obtain ⟨u0, h1, h2⟩ := h.inn k hkl
  rw [hk] at h1; cases h1
  exact World.ownsRow.lt h2 _ hq
/-- one more row behind, itself in new memory -/
theorem OwnII.push {r : Value} {l : List Int} {o : Obj} (h : OwnII w B v vs L) (hb : Below w.heap.size w w1) (hr : OwnI w1 w.heap.size r l) (hB : B ≤ w.heap.size)
    (hown : w3.ownsRow B 23 1 v' (L.length + 1) (vs ++ [r])) (hg : (w1.alloc o).grownBy w3 v.ownBlock) (hat : v'.ownBlock = v.ownBlock ∨ v'.ownBlock = some (w1.alloc o).heap.size) : OwnII w3 B v' (vs ++ [r]) (L ++ [l]) := by
  have hal : Below w1.heap.size w1 (w1.alloc o) := (Below.refl _ _).alloc (Nat.le_refl _) o
  have hsz : w.heap.size ≤ w1.heap.size := hb.size
  have hsa : (w1.alloc o).heap.size = w1.heap.size + 1 := by simp
  have hlen := h.len
  have hold : ∀ q, v.ownBlock = some q → q < w.heap.size := fun q hq => (World.ownsRow.lt h.row _ hq).2
  have hnew : ∀ q, r.ownBlock = some q → w.heap.size ≤ q ∧ q < w1.heap.size := fun q hq => World.ownsRow.lt hr _ hq
  have split : ∀ k u, (vs ++ [r])[k]? = some u → (k < vs.length ∧ vs[k]? = some u) ∨ (k = vs.length ∧ u = r) := by
    intro k u hk
    by_cases hlt : k < vs.length
    · rw [List.getElem?_append_left hlt] at hk; exact .inl ⟨hlt, hk⟩
    · rw [List.getElem?_append_right (by omega)] at hk
      obtain ⟨hk1, hk2⟩ := List.getElem?_eq_some_iff.1 hk
      simp at hk1 hk2
      exact .inr ⟨by omega, hk2.symm⟩
  refine ⟨?_, fun k hk => ?_, fun j k u u' q hj hk e f => ?_, fun k u q hk e f => ?_⟩
  · rw [List.length_append]; exact hown
  · by_cases hlt : k < L.length
    · obtain ⟨u, h1, h2⟩ := h.inn k hlt
      refine ⟨u, by rw [List.getElem?_append_left (by omega)]; exact h1, ?_⟩
      rw [List.getElem_append_left hlt]
      exact row_grown ((h2.call hb).call hal) hg (fun q hq e => h.off k u q h1 hq e.symm)
    · have hkL : k = L.length := by rw [List.length_append] at hk; simp at hk; omega
      subst hkL
      refine ⟨r, by rw [List.getElem?_append_right (by omega), hlen]; simp, ?_⟩
      rw [List.getElem_append_right (Nat.le_refl _)]
      simp only [Nat.sub_self, List.getElem_cons_zero]
      exact (show OwnI w3 w.heap.size r l from row_grown (hr.call hal) hg (fun q hq e => by have := hold q e.symm; have := hnew q hq; omega)).mono hB
  · rcases split j u hj with ⟨hj1, hj2⟩ | ⟨rfl, rfl⟩
    · rcases split k u' hk with ⟨hk1, hk2⟩ | ⟨rfl, rfl⟩
      · exact h.apart j k u u' q hj2 hk2 e f
      · have := (h.lt hj2 e).2; have := hnew q f; omega
    · rcases split k u' hk with ⟨hk1, hk2⟩ | ⟨rfl, rfl⟩
      · have := (h.lt hk2 f).2; have := hnew q e; omega
      · rfl
  · rcases split k u hk with ⟨hk1, hk2⟩ | ⟨rfl, rfl⟩
    · rcases hat with hat | hat
      · exact h.off k u q hk2 e (hat ▸ f)
      · rw [hat] at f; cases f
        have := (h.lt hk2 e).2; omega
    · have hq := hnew q e
      rcases hat with hat | hat
      · have := hold q (hat ▸ f); omega
      · rw [hat] at f; cases f; omega
end
/-- the lists, in order -/
def allL (st : LSt) : List (List Int) := (List.range st.2.1.length).map (walkN st)
theorem allL_len (st : LSt) : (allL st).length = st.2.1.length := by simp [allL]
def allP (st : LSt) (k : Nat) : List (List Int) := (List.range k).map (walkN st)
theorem allP_succ (st : LSt) (k : Nat) : allP st (k + 1) = allP st k ++ [walkN st k] := by simp [allP, List.range_succ]
theorem allP_len (st : LSt) (k : Nat) : (allP st k).length = k := by simp [allP]

theorem rowII_shape {w : World} {B : Nat} {v : Value} {vs : List Value} {L : List (List Int)} (h : OwnII w B v vs L) : ∃ a c, v = .slice a L.length c := by
  rcases h.row.2 with ⟨hv, hn⟩ | ⟨g, cap, cur, hv, r⟩
  · exact ⟨none, 0, by rw [hv, hn]⟩
  · exact ⟨_, _, hv⟩
theorem row_oneCell {w : World} {B : Nat} {v : Value} {l : List Int} (h : OwnI w B v l) : v.oneCell' = true := by
  obtain ⟨a, c, rfl⟩ := rowI_shape h
  rfl
set_option maxRecDepth 100000 in
set_option maxHeartbeats 2000000 in
theorem refall_any (vn vh vt : Value) (st : LSt) (w : World) (hv : IsLS w vn vh vt st) (h1 : st.1.length ≤ 1048576) (h2 : st.2.1.length ≤ 1048576) (hR : linksB st = true) :
    Calls Try.prog 40 #[.agg #[vn, vh, vt]] w fun e w' => ∃ v vs, e = .returned v ∧ OwnII w' w.heap.size v vs (allL st) ∧ Below w.heap.size w w' := by
  obtain ⟨i0, hi0, hj0, hj1, hj2⟩ := info_parts info_ints
  have HV := Lib.hid hv
  have cw := fun i W (h : Below w.heap.size w W) hi => walk_any vn vh vt st i W (HV.out.call h) h1 h2 hR hi
  have hP : allP st st.2.1.length = allL st := rfl
  have HP := Lib.hid hP
  clear hP hR
  obtain ⟨l, hd, tl⟩ := st
  replace h2 : hd.length ≤ 1048576 := h2
  obtain ⟨⟨pn, cn, rfl, -⟩, ⟨ph, ch, rfl, -⟩, ⟨pt, ct, rfl, -⟩⟩ := hv
  go_enter Try.func40, Try.ntmps40
  go_wp2_with fail
  refine gen_world (F := fun wt => (wt.cell? ⟨w.heap.size, 0, none⟩ = some (.slice pn l.length cn) ∧ wt.cell? ⟨w.heap.size, 1, none⟩ = some (.slice ph hd.length ch) ∧ wt.cell? ⟨w.heap.size, 2, none⟩ = some (.slice pt tl.length ct)) ∧ Below w.heap.size w wt ∧ w.heap.size < wt.heap.size) ⟨⟨by simp [go_sem], by simp [go_sem], by simp [go_sem]⟩, by (repeat (first | (with_reducible exact Below.refl _ _) | ((with_reducible refine below_alloc ?_ ?_ _); · (first | omega | (simp; done) | (simp; omega))) | ((with_reducible refine below_setCell ?_ ?_ _); · (first | omega | (simp; done) | (simp; omega))) | (with_reducible refine Below.drew ?_) | (with_reducible refine below_drewN ?_ _) | ((with_reducible refine below_call (by assumption) ?_ ?_); · (first | omega | (simp; done) | (simp; omega))))), by simp⟩ (fun wt hF => ?_)
  obtain ⟨⟨e0, e1, e2⟩, hB, hz⟩ := hF
  have HE := Lib.hid (And.intro e0 (And.intro e1 e2))
  clear e0 e1 e2
  go_loopw [3, 4] (fun u i wr => ∃ k vs, i = .int .i64 ((k : Nat) : Int) ∧ k ≤ hd.length ∧ OwnII wr wt.heap.size u vs (allP (l, hd, tl) k) ∧ Fr wt wr) (fun _ i _ => hd.length - (intOf i).toNat)
  case atStart => exact ⟨0, [], rfl, by omega, OwnII.nil _ _, Fr.refl _⟩
  case round =>
    obtain ⟨k, vs, rfl, hk, ho, hF⟩ := hrel
    have e0 := Fr.at hF HE.out.1
    have e1 := Fr.at hF HE.out.2.1
    have e2 := Fr.at hF HE.out.2.2
    have hs := Below.size hF
    have HF := Lib.hid hF
    have hPl := allP_len (l, hd, tl) k
    obtain ⟨ao, cp, hve⟩ := rowII_shape ho
    rw [hPl] at hve
    subst hve
    have HO := Lib.hid ho
    clear ho hF
    by_cases hlt : k < hd.length
    · have hlt' : (k : Int) < hd.length := by omega
      have cc := cw k wr (Fr.fin hB HF.out) hlt
      go_wp2_with fail
      refine cc.mono ?_; rintro e w1 ⟨r, rfl, hown, hb1⟩
      have hs1 := hb1.size
      have hrc := row_oneCell hown
      obtain ⟨ra, rc, hre⟩ := rowI_shape hown
      subst hre
      generalize hrn : (walkN (l, hd, tl) k).length = rn at *
      clear hrn
      have HR := Lib.hid hown
      have HB1 := Lib.hid hb1
      clear cc hown hb1 hrc
      go_wp2_with (at_builtin; (conv => skip); refine stopHere ?_)
      refine And.intro ?_ trivial
      refine wpList_append_own_at _ rfl _ _ 71 rfl wt.heap.size 23 i0 (.slice none 0 0) 1 24 Try.underlying71 hi0 hj0 hj1 hj2 rfl (by decide) _ k vs rfl (by have h := (HO.out.call HB1.out).row; rw [allP_len] at h; exact h.call' ((Below.refl _ _).alloc (Nat.le_refl _) _)) ⟨w1.heap.size, 0, none⟩ 1 1 [.slice ra rn rc] rfl rfl (cell_one_new _ _ _) (by intro u hu; rw [List.mem_singleton] at hu; subst hu; rfl) (by unfold maxLen; omega) (by omega) (by simp; omega) ?_
      intro v' w3 hown' hgr _ hat
      have hown3 : OwnII w3 wt.heap.size v' (vs ++ [.slice ra rn rc]) (allP (l, hd, tl) (k + 1)) := by
        rw [allP_succ]
        exact HO.out.push HB1.out HR.out (by omega) (by rw [allP_len]; exact hown') hgr hat
      have hb3 : Below wt.heap.size w1 w3 := ((Below.refl _ _).alloc (by omega) _).grown hgr (by simp; omega) (fun q hq => (World.ownsRow.lt HO.out.row q hq).1)
      have hF3 : Fr wt w3 := Below.trans (Fr.call HF.out HB1.out) hb3
      have H3 := Lib.hid (And.intro hF3 hown3)
      clear hown' hgr hown3 hF3 hb3 hat
      go_wp2_with fail
      go_roundw
      case rel => exact ⟨k + 1, vs ++ [.slice ra rn rc], by go_num, by omega, H3.out.2, H3.out.1⟩
      case measure => simp [intOf]; omega
    · obtain rfl : k = hd.length := by omega
      clear hlt
      go_wp2_with fail
      go_ret
      exact ⟨_, vs, rfl, (HP.out ▸ HO.out).mono (by omega), Fr.fin hB HF.out⟩
end Go.Proofs.Ytkcenadenmkgnaa
