/- Contracts of layer 4, the program's: through. -/
import Derived.Test.YtkcenadenmkgnaaC5B
import Derived.Test.YtkcenadenmkgnaaC5M
import Derived.ScopeJumps
import Derived.WalkMore
import Derived.Deep.QuietTactic
namespace Go.Proofs.Ytkcenadenmkgnaa
open Go.RowKit
set_option linter.unusedVariables false
set_option linter.unusedSimpArgs false

/-- a jump back: the pass from the label serves the first way to it too -/
theorem wp_scope_back {P : Program} {a : Act} {w : World} {Q : Exit → Act → World → Prop} {c rest : Code} (l : Nat) (J : Act → World → Prop) (μ : Act → World → Nat) (hf : findLabel c l = some (Code.skip.seq rest))
    (pass : ∀ a w, J a w → rest.wp P (Exit.jump l (fun a' w' => J a' w' ∧ μ a' w' < μ a w) Q) a w)
    (first : (∀ a w, J a w → rest.wp P (Exit.jump l J Q) a w) → c.wp P (Exit.jump l J Q) a w) : (Code.scope c).wp P Q a w :=
  wp_scope_jumps l J μ hf (first fun a w h => wp_mono (pass a w h) (fun e a w hq => by
    cases e with
    | goto l' => exact ⟨hq.1, hq.2.1⟩
    | _ => exact hq)) (fun a w h => wp_seq (wp_skip (pass a w h)))

/-- may a list be gone through? -/
def thrP (st : LSt) (i : Nat) : Bool := prevOk st.1 i (-1) (walkN st i) && decide ((walkN st i).length ≤ st.1.length)
def thrL (st : LSt) (i : Nat) : List Int := if thrP st i then walkN st i else []
def thrOk (st : LSt) (i : Nat) : Bool := thrP st i && st.2.2.getD i (-1) == lastN (-1) (walkN st i)

set_option maxRecDepth 100000 in
set_option maxHeartbeats 4000000 in
theorem through_any (vn vh vt : Value) (st : LSt) (i : Nat) (w : World) (hv : IsLS w vn vh vt st) (h1 : st.1.length ≤ 1048576) (h2 : st.2.1.length ≤ 1048576) (hR : linksB st = true) (hi : i < st.2.1.length) (hit : i < st.2.2.length) :
    Calls Try.prog 43 #[.agg #[vn, vh, vt], .int .i64 i] w fun e w' => ∃ v, e = .returned (.tuple #[v, .bool (thrOk st i)]) ∧ OwnI w' w.heap.size v (thrL st i) ∧ Below w.heap.size w w' := by
  obtain ⟨i0, hi0, hj0, hj1, hj2⟩ := info_parts info_int
  have hhead := links_head hR hi
  have hnod := fun j (hj : j < st.1.length) => (links_nod hR hj).2.1
  obtain ⟨l, hd, tl⟩ := st
  replace h1 : l.length ≤ 1048576 := h1
  replace h2 : hd.length ≤ 1048576 := h2
  replace hi : i < hd.length := hi
  replace hit : i < tl.length := hit
  replace hhead : -1 ≤ hd[i] ∧ hd[i] < (l.length : Int) := hhead
  replace hnod : ∀ j (hj : j < l.length), -1 ≤ l[j].2.1 ∧ l[j].2.1 < (l.length : Int) := hnod
  obtain ⟨⟨pn, cn, rfl, hn⟩, ⟨ph, ch, rfl, hh⟩, ⟨pt, ct, rfl, ht⟩⟩ := hv
  have HN := Lib.hid hn
  obtain ⟨bh, oh, rfl, dh⟩ := hh i hi
  obtain ⟨bt, ot, rfl, dt⟩ := ht i hit
  have hi' : (i : Int) < hd.length := by omega
  have hit' : (i : Int) < tl.length := by omega
  have hWN : walkN (l, hd, tl) i = walkF l (l.length + 1) hd[i] := by unfold walkN; simp [List.getD, hi]
  obtain ⟨hv0, hhv⟩ : ∃ x, hd[i] = x := ⟨_, rfl⟩
  obtain ⟨tv, htv⟩ : ∃ x, tl[i] = x := ⟨_, rfl⟩
  have hOk : thrOk (l, hd, tl) i = (thrP (l, hd, tl) i && tv == lastN (-1) (walkN (l, hd, tl) i)) := by
    unfold thrOk; simp only [List.getD, List.getElem?_eq_getElem hit, Option.getD_some, htv]
  rw [hhv] at hhead dh hWN
  rw [htv] at dt
  have HOK := Lib.hid hOk
  have HWN := Lib.hid hWN
  have HD := Lib.hid (And.intro dh dt)
  have HND := Lib.hid hnod
  have HH := Lib.hid hhead
  have h1' : (l.length : Int) ≤ 1048576 := by omega
  clear hn hh ht hR hWN hhv htv hOk dt hnod
  go_enter Try.func43, Try.ntmps43
  go_wp2
  refine wp_scope_back 0 (fun a' w' => ∃ (X : List Int) (pr a : Int) (v : Value) (u9 u10 u11 u12 u13 u14 u15 u16 u17 u18 u19 u20 u21 u22 u23 u24 u25 u26 u27 u28 u29 u30 u31 u32 u33 u34 u35 u36 u37 u38 u39 u40 u41 u42 u43 u44 u45 u46 : Value), a' = { tmps := #[.agg #[.slice pn l.length cn, .slice (some ⟨bh, oh, none⟩) hd.length ch, .slice (some ⟨bt, ot, none⟩) tl.length ct], .int .i64 i, .pointer (some ⟨w.heap.size, 0, none⟩), undef, .slice none 0 0, .bool false, v, .int .i64 pr, .int .i64 a, u9, u10, u11, u12, u13, u14, u15, u16, u17, u18, u19, u20, u21, u22, u23, u24, u25, u26, u27, u28, u29, u30, u31, u32, u33, u34, u35, u36, u37, u38, u39, u40, u41, u42, u43, u44, u45, u46], defers := [] } ∧
      OwnI w' (w.heap.size + 1) v X ∧ prevOk l i (-1) X = true ∧ lastN (-1) X = pr ∧ (-1 ≤ a ∧ a < l.length) ∧ (∀ x ∈ X, 0 ≤ x ∧ x < (l.length : Int)) ∧ X ++ walkF l (l.length + 1 - X.length) a = walkN (l, hd, tl) i ∧
      (w'.cell? ⟨w.heap.size, 0, none⟩ = some (.slice pn l.length cn) ∧ w'.cell? ⟨w.heap.size, 2, none⟩ = some (.slice (some ⟨bt, ot, none⟩) tl.length ct)) ∧ Below w.heap.size w w' ∧ w.heap.size < w'.heap.size)
    (fun a' _ => l.length + 1 - lenV (a'.tmps.getD 6 undef)) rfl ?_ ?_
  · rintro a' wr ⟨X, pr, a, v, u9, u10, u11, u12, u13, u14, u15, u16, u17, u18, u19, u20, u21, u22, u23, u24, u25, u26, u27, u28, u29, u30, u31, u32, u33, u34, u35, u36, u37, u38, u39, u40, u41, u42, u43, u44, u45, u46, rfl, hown, hpo, hla, ha, hmem, heq, ⟨e0, e2⟩, hB, hz⟩
    have hlen := nodup_bd (prevOk_nodup hpo fun x hx => (hmem x hx).1) hmem
    obtain ⟨ao, cp, hve⟩ := rowI_shape hown
    subst hve
    have HO := Lib.hid hown
    have HQ := Lib.hid heq
    have HP := Lib.hid (And.intro hpo hla)
    have HM := Lib.hid hmem
    have HBW := Lib.hid hB
    have HE := Lib.hid (And.intro e0 e2)
    have hlen' : (X.length : Int) ≤ l.length := by omega
    show Code.wp _ _ (Exit.jump 0 (fun a' w' => _ ∧ l.length + 1 - lenV (a'.tmps.getD 6 undef) < l.length + 1 - X.length) _) _ _
    clear hown hpo hla hmem heq hB
    by_cases han : a = -1
    · subst han
      have dt := Below.cell HBW.out (p := ⟨bt, ot + i, none⟩) (World.block_lt_of_cell? _ _ HD.out.2) |>.trans HD.out.2
      have hWX : walkN (l, hd, tl) i = X := by rw [← HQ.out, walkF_neg _ _ _ (by decide)]; simp
      have hp : thrP (l, hd, tl) i = true := by unfold thrP; rw [hWX, HP.out.1, Bool.true_and, decide_eq_true_iff]; exact hlen
      have hf : Hid (thrOk (l, hd, tl) i = (tv == pr) ∧ thrL (l, hd, tl) i = X) := Lib.hid ⟨by rw [HOK.out, hp, hWX, HP.out.2]; rfl, by unfold thrL; rw [if_pos hp, hWX]⟩
      clear hWX hp
      go_wp2
      go_quiet (fail)
      go_wp2
      simp only [Exit.jump]
      go_ret2
      exact ⟨_, (by first | (rw [hf.out.1]; rfl) | rw [hf.out.1]), by rw [hf.out.2]; exact HO.out.mono (by omega), by have hF := HBW.out; (repeat (first | (with_reducible exact Below.refl _ _) | ((with_reducible refine below_alloc ?_ ?_ _); · (first | omega | (simp; done) | (simp; omega))) | ((with_reducible refine below_setCell ?_ ?_ _); · (first | omega | (simp; done) | (simp; omega))) | (with_reducible refine Below.drew ?_) | (with_reducible refine below_drewN ?_ _) | ((with_reducible refine below_call (by assumption) ?_ ?_); · (first | omega | (simp; done) | (simp; omega)))))⟩
    · have han0 : (a == (-1 : Int)) = false := by simp [han]
      obtain ⟨k, rfl⟩ : ∃ k : Nat, a = k := ⟨a.toNat, by omega⟩
      have hk0 : (0 : Int) ≤ k := by omega
      have hkl : k < l.length := by omega
      have hkl' : (k : Int) < l.length := by omega
      obtain ⟨b, off, rfl, d0, d1, d2⟩ := HN.out k hkl
      have hbw : b < w.heap.size := World.block_lt_of_cell? _ _ d0
      have c0 := (Below.cell HBW.out (p := ⟨b, off + k * 3, none⟩) hbw).trans d0
      have c1 := (Below.cell HBW.out (p := ⟨b, off + k * 3 + 1, none⟩) hbw).trans d1
      have c2 := (Below.cell HBW.out (p := ⟨b, off + k * 3 + 2, none⟩) hbw).trans d2
      have hnx := HND.out k hkl
      have hna := nodAt_lt l k hkl
      obtain ⟨x, hx⟩ : ∃ x, l[k] = x := ⟨_, rfl⟩
      obtain ⟨x0, x1, x2⟩ := x
      rw [hx] at c0 c1 c2 hna hnx
      have hstep : walkF l (l.length + 1 - X.length) k = (k : Int) :: walkF l (l.length + 1 - (X.length + 1)) x1 := by
        have e : l.length + 1 - X.length = (l.length + 1 - (X.length + 1)) + 1 := by omega
        rw [e]
        conv => lhs; unfold walkF
        rw [if_neg (by omega), Int.toNat_natCast, hna]
      have hprev : prevOk l i (-1) (X ++ (k : Int) :: walkF l (l.length + 1 - (X.length + 1)) x1) = ((x0 == (i : Int) && x2 == pr) && prevOk l i k (walkF l (l.length + 1 - (X.length + 1)) x1)) := by
        rw [prevOk_append, HP.out.1, HP.out.2, Bool.true_and]
        show (((nodAt l (k : Int).toNat).1 == (i : Int) && (nodAt l (k : Int).toNat).2.2 == pr) && _) = _
        rw [Int.toNat_natCast, hna]
      have HS := Lib.hid (And.intro hstep (And.intro hprev (And.intro hna hnx)))
      have HC1 : Hid (w.cell? ⟨b, off + k * 3 + 1, none⟩ = some (.int .i64 x1)) := Lib.hid (by rw [hx] at d1; exact d1)
      clear d0 d1 d2 hx hna hnx hstep hprev han
      cases q0 : (x0 == (i : Int))
      · have hne0 : (x0 != (i : Int)) = true := by simp only [bne, q0]; rfl
        have hf : Hid (thrOk (l, hd, tl) i = false ∧ thrL (l, hd, tl) i = []) := by
          have hp : thrP (l, hd, tl) i = false := by unfold thrP; rw [← HQ.out, HS.out.1, HS.out.2.1, q0]; rfl
          exact Lib.hid ⟨by rw [HOK.out, hp]; rfl, by unfold thrL; rw [if_neg (by rw [hp]; decide)]⟩
        clear q0
        go_wp2
        simp only [Exit.jump]
        go_ret2
        exact ⟨_, (by first | (rw [hf.out.1]; rfl) | rw [hf.out.1]), by rw [hf.out.2]; exact OwnI.nil _ _, by have hF := HBW.out; (repeat (first | (with_reducible exact Below.refl _ _) | ((with_reducible refine below_alloc ?_ ?_ _); · (first | omega | (simp; done) | (simp; omega))) | ((with_reducible refine below_setCell ?_ ?_ _); · (first | omega | (simp; done) | (simp; omega))) | (with_reducible refine Below.drew ?_) | (with_reducible refine below_drewN ?_ _) | ((with_reducible refine below_call (by assumption) ?_ ?_); · (first | omega | (simp; done) | (simp; omega)))))⟩
      · have hne0 : (x0 != (i : Int)) = false := by simp only [bne, q0]; rfl
        cases q2 : (x2 == pr)
        · have hne2 : (x2 != pr) = true := by simp only [bne, q2]; rfl
          have hf : Hid (thrOk (l, hd, tl) i = false ∧ thrL (l, hd, tl) i = []) := by
            have hp : thrP (l, hd, tl) i = false := by unfold thrP; rw [← HQ.out, HS.out.1, HS.out.2.1, q0, q2]; rfl
            exact Lib.hid ⟨by rw [HOK.out, hp]; rfl, by unfold thrL; rw [if_neg (by rw [hp]; decide)]⟩
          clear q0 q2
          go_wp2
          simp only [Exit.jump]
          go_ret2
          exact ⟨_, (by first | (rw [hf.out.1]; rfl) | rw [hf.out.1]), by rw [hf.out.2]; exact OwnI.nil _ _, by have hF := HBW.out; (repeat (first | (with_reducible exact Below.refl _ _) | ((with_reducible refine below_alloc ?_ ?_ _); · (first | omega | (simp; done) | (simp; omega))) | ((with_reducible refine below_setCell ?_ ?_ _); · (first | omega | (simp; done) | (simp; omega))) | (with_reducible refine Below.drew ?_) | (with_reducible refine below_drewN ?_ _) | ((with_reducible refine below_call (by assumption) ?_ ?_); · (first | omega | (simp; done) | (simp; omega)))))⟩
        · have hne2 : (x2 != pr) = false := by simp only [bne, q2]; rfl
          have hf : Hid (prevOk l i (-1) (X ++ [(k : Int)]) = true) := Lib.hid (by
            rw [prevOk_append, HP.out.1, HP.out.2, Bool.true_and]
            show (((nodAt l (k : Int).toNat).1 == (i : Int) && (nodAt l (k : Int).toNat).2.2 == pr) && true) = true
            rw [Int.toNat_natCast, HS.out.2.2.1, q0, q2]; rfl)
          clear q0 q2
          go_wp2_with (at_builtin; (conv => skip); refine stopHere ?_)
          refine And.intro ?_ trivial
          refine wpList_append_own _ rfl _ _ 23 rfl (w.heap.size + 1) 3 i0 (.int .i64 0) 1 8 Try.underlying23 hi0 hj0 hj1 hj2 rfl (by decide) _ X.length (X.map (Value.int .i64)) rfl ((show World.ownsRow _ _ _ _ _ _ _ from HO.out).call' (by (repeat (first | (with_reducible exact Below.refl _ _) | ((with_reducible refine below_alloc ?_ ?_ _); · (first | omega | (simp; done) | (simp; omega))) | ((with_reducible refine below_setCell ?_ ?_ _); · (first | omega | (simp; done) | (simp; omega))) | (with_reducible refine Below.drew ?_) | (with_reducible refine below_drewN ?_ _) | ((with_reducible refine below_call (by assumption) ?_ ?_); · (first | omega | (simp; done) | (simp; omega))))))) ⟨wr.heap.size + 1, 0, none⟩ 1 1 [Value.int .i64 k] rfl rfl (by have h := cell_one_new (wr.alloc (.cells #[.int .i64 x0, .int .i64 x1, .int .i64 x2] 63)) (Value.int .i64 k) 3; rw [World.size_alloc] at h; exact h) (by simp [Value.oneCell']) (by unfold maxLen; omega) (by omega) (by simp; omega) ?_
          intro v' w3 hown' hgr _
          have hb3 : Below (w.heap.size + 1) wr w3 := (((Below.refl _ _).alloc (by omega) _).alloc (by simp; omega) _).grown hgr (by simp; omega) (fun q hq => (World.ownsRow.lt HO.out q hq).1)
          have hB3 : Below w.heap.size w w3 := Below.trans HBW.out (hb3.mono (by omega))
          have x0' := (Below.cell hb3 (p := ⟨w.heap.size, 0, none⟩) (by show w.heap.size < _; omega)).trans HE.out.1
          have x2' := (Below.cell hb3 (p := ⟨w.heap.size, 2, none⟩) (by show w.heap.size < _; omega)).trans HE.out.2
          have hown3 : OwnI w3 (w.heap.size + 1) v' (X ++ [(k : Int)]) := by
            show World.ownsRow _ _ _ _ _ _ _
            rw [List.length_append, List.map_append]; exact hown'
          have hz3 := hb3.size
          have H3 := Lib.hid (And.intro hB3 (And.intro hown3 (And.intro x0' x2')))
          have hq : some wr.heap.size ≠ (Value.slice ao X.length cp).ownBlock := fun e => by have := (World.ownsRow.lt HO.out _ e.symm).2; omega
          have n1 : w3.cell? ⟨wr.heap.size, 1, none⟩ = some (.int .i64 x1) := (World.cell?_of_block (hgr.block wr.heap.size (by simp; omega) hq)).trans (by simp [go_sem])
          have c1' := (Below.cell hB3 (p := ⟨b, off + k * 3 + 1, none⟩) hbw).trans HC1.out
          clear hown' hgr hown3 hB3 hb3 x0' x2' e0 e2 c0 c1 c2 hq
          go_wp2_with fail
          go_quiet (fail)
          go_wp2
          go_step3
          refine ⟨rfl, ⟨X ++ [(k : Int)], (k : Int), x1, v', _, _, _, _, _, _, _, _, _, _, _, _, _, _, _, _, _, _, _, _, _, _, _, _, _, _, _, _, _, _, _, _, _, _, _, _, _, _, rfl, H3.out.2.1, hf.out, by rw [lastN_append]; rfl, HS.out.2.2.2, fun y hy => ?_, ?_, ?_, ?_, ?_⟩, ?_⟩
          · rcases List.mem_append.1 hy with hy | hy
            · exact HM.out y hy
            · rw [List.mem_singleton] at hy; subst hy; omega
          · rw [← HQ.out, HS.out.1, List.append_assoc, List.length_append]; rfl
          · exact ⟨by simpa using H3.out.2.2.1, by simpa using H3.out.2.2.2⟩
          · have hB3 := H3.out.1; (repeat (first | (with_reducible exact Below.refl _ _) | ((with_reducible refine below_alloc ?_ ?_ _); · (first | omega | (simp; done) | (simp; omega))) | ((with_reducible refine below_setCell ?_ ?_ _); · (first | omega | (simp; done) | (simp; omega))) | (with_reducible refine Below.drew ?_) | (with_reducible refine below_drewN ?_ _) | ((with_reducible refine below_call (by assumption) ?_ ?_); · (first | omega | (simp; done) | (simp; omega)))))
          · simp; omega
          · obtain ⟨ao', cp', hv'⟩ := rowI_shape H3.out.2.1
            subst hv'
            show l.length + 1 - (X ++ [(k : Int)]).length < l.length + 1 - X.length
            simp; omega
  · intro hp
    have HP0 := Lib.hid hp
    clear hp
    go_wp2
    refine gen_world (F := fun wt => (wt.cell? ⟨w.heap.size, 0, none⟩ = some (.slice pn l.length cn) ∧ wt.cell? ⟨w.heap.size, 1, none⟩ = some (.slice (some ⟨bh, oh, none⟩) hd.length ch) ∧ wt.cell? ⟨w.heap.size, 2, none⟩ = some (.slice (some ⟨bt, ot, none⟩) tl.length ct)) ∧ Below w.heap.size w wt ∧ w.heap.size < wt.heap.size) ⟨⟨by simp [go_sem], by simp [go_sem], by simp [go_sem]⟩, by (repeat (first | (with_reducible exact Below.refl _ _) | ((with_reducible refine below_alloc ?_ ?_ _); · (first | omega | (simp; done) | (simp; omega))) | ((with_reducible refine below_setCell ?_ ?_ _); · (first | omega | (simp; done) | (simp; omega))) | (with_reducible refine Below.drew ?_) | (with_reducible refine below_drewN ?_ _) | ((with_reducible refine below_call (by assumption) ?_ ?_); · (first | omega | (simp; done) | (simp; omega))))), by simp⟩ (fun wt hF => ?_)
    obtain ⟨⟨e0, e1, e2⟩, hB, hz⟩ := hF
    have dh' := (Below.cell hB (p := ⟨bh, oh + i, none⟩) (World.block_lt_of_cell? _ _ HD.out.1)).trans HD.out.1
    clear dh
    go_quiet (fail)
    go_wp2
    go_step3
    rename_i hK
    refine hK _ _ (HP0.out _ _ ⟨[], -1, hv0, .slice none 0 0, _, _, _, _, _, _, _, _, _, _, _, _, _, _, _, _, _, _, _, _, _, _, _, _, _, _, _, _, _, _, _, _, _, _, _, _, _, _, rfl, OwnI.nil _ _, rfl, rfl, HH.out, (fun x hx => by cases hx), HWN.out.symm, ⟨by simpa using e0, by simpa using e2⟩, ?_, by simpa using hz⟩)
    (repeat (first | (with_reducible exact Below.refl _ _) | ((with_reducible refine below_alloc ?_ ?_ _); · (first | omega | (simp; done) | (simp; omega))) | ((with_reducible refine below_setCell ?_ ?_ _); · (first | omega | (simp; done) | (simp; omega))) | (with_reducible refine Below.drew ?_) | (with_reducible refine below_drewN ?_ _) | ((with_reducible refine below_call (by assumption) ?_ ?_); · (first | omega | (simp; done) | (simp; omega)))))
end Go.Proofs.Ytkcenadenmkgnaa
