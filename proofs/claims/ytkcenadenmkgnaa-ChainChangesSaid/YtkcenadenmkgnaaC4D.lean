/- Contracts of layer 4, the document's: right. -/
import Derived.Test.YtkcenadenmkgnaaC4C
namespace Go.Proofs.Ytkcenadenmkgnaa
open Go.RowKit
set_option linter.unusedVariables false
set_option linter.unusedSimpArgs false

theorem walkF_mem (l : List Nod) (hnd : ∀ j (hj : j < l.length), -1 ≤ l[j].2.1 ∧ l[j].2.1 < l.length) : ∀ (k : Nat) (a : Int), a < l.length → ∀ x ∈ walkF l k a, 0 ≤ x ∧ x < l.length := by
  intro k
  induction k with
  | zero => intro a _ x hx; cases hx
  | succ k ih =>
    intro a ha x hx
    unfold walkF at hx
    split at hx
    · cases hx
    · rename_i h0
      rcases List.mem_cons.1 hx with rfl | hx
      · omega
      · have hl : a.toNat < l.length := by omega
        have := hnd a.toNat hl
        rw [nodAt_lt _ _ hl] at hx
        exact ih _ this.2 x hx
theorem walkN_mem {st : LSt} (hR : linksB st = true) {i : Nat} (hi : i < st.2.1.length) : ∀ x ∈ walkN st i, 0 ≤ x ∧ x < st.1.length := by
  have h := links_head hR hi
  unfold walkN
  have e : st.2.1.getD i (-1) = st.2.1[i] := by simp [List.getD, hi]
  rw [e]
  exact walkF_mem st.1 (fun j hj => (links_nod hR hj).2.1) _ _ h.2
/-- how many places are of a list -/
def cntN (l : List Nod) (i : Int) : Nat := (l.filter fun x => x.1 == i).length
theorem cntN_take (l : List Nod) (i : Int) (k : Nat) (h : k < l.length) : cntN (l.take (k + 1)) i = cntN (l.take k) i + if l[k].1 == i then 1 else 0 := by
  unfold cntN
  rw [List.take_succ_eq_append_getElem h, List.filter_append, List.length_append]
  congr 1
  cases hh : l[k].1 == i <;> simp [hh]
theorem cntN_le (l : List Nod) (i : Int) : cntN l i ≤ l.length := List.length_filter_le _ _
/-- do places go on from one as their links back say, all of them of a list? -/
def prevOk (l : List Nod) (i : Int) : Int → List Int → Bool
  | _, [] => true
  | p, a :: r => ((nodAt l a.toNat).1 == i && (nodAt l a.toNat).2.2 == p) && prevOk l i a r
/-- the last one -/
def lastN : Int → List Int → Int
  | p, [] => p
  | _, a :: r => lastN a r
def rightB (st : LSt) (i : Nat) : Bool := if (walkN st i).length = cntN st.1 i then prevOk st.1 i (-1) (walkN st i) && st.2.2.getD i (-1) == lastN (-1) (walkN st i) else false

set_option maxRecDepth 100000 in
set_option maxHeartbeats 4000000 in
theorem right_any (vn vh vt : Value) (st : LSt) (i : Nat) (w : World) (hv : IsLS w vn vh vt st) (h1 : st.1.length ≤ 1048576) (h2 : st.2.1.length ≤ 1048576) (hR : linksB st = true) (hi : i < st.2.1.length) (hit : i < st.2.2.length) :
    Calls Try.prog 53 #[.agg #[vn, vh, vt], .int .i64 i] w fun e w' => e = .returned (.bool (rightB st i)) ∧ Below w.heap.size w w' := by
  have HV := Lib.hid hv
  have cw := fun W (h : Below w.heap.size w W) => walk_any vn vh vt st i W (HV.out.call h) h1 h2 hR hi
  have hmem := walkN_mem hR hi
  obtain ⟨l, hd, tl⟩ := st
  replace h1 : l.length ≤ 1048576 := h1
  replace h2 : hd.length ≤ 1048576 := h2
  replace hi : i < hd.length := hi
  replace hit : i < tl.length := hit
  replace hmem : ∀ x ∈ walkN (l, hd, tl) i, 0 ≤ x ∧ x < (l.length : Int) := hmem
  obtain ⟨⟨pn, cn, rfl, hn⟩, ⟨ph, ch, rfl, hh⟩, ⟨pt, ct, rfl, ht⟩⟩ := hv
  have HN := Lib.hid hn
  obtain ⟨bt, ot, rfl, dt⟩ := ht i hit
  have hit' : (i : Int) < tl.length := by omega
  have hlen := walkF_len l (l.length + 1) (hd.getD i (-1))
  replace hlen : (walkN (l, hd, tl) i).length ≤ l.length + 1 := hlen
  have hRB : rightB (l, hd, tl) i = if (walkN (l, hd, tl) i).length = cntN l i then prevOk l i (-1) (walkN (l, hd, tl) i) && tl[i] == lastN (-1) (walkN (l, hd, tl) i) else false := by
    unfold rightB; simp only [List.getD, List.getElem?_eq_getElem hit, Option.getD_some]
  have hcl := cntN_le l i
  obtain ⟨L, hL⟩ : ∃ L, walkN (l, hd, tl) i = L := ⟨_, rfl⟩
  rw [hL] at cw hRB hlen hmem
  obtain ⟨tv, htv⟩ : ∃ x, tl[i] = x := ⟨_, rfl⟩
  rw [htv] at dt hRB
  have HRB := Lib.hid hRB
  have HM := Lib.hid hmem
  have HDT := Lib.hid dt
  have h1' : (l.length : Int) ≤ 1048576 := by omega
  have hLen' : (L.length : Int) ≤ 1048577 := by omega
  have HCL := Lib.hid hcl
  clear hn hh ht hR hL htv hRB hmem dt hcl
  go_enter Try.func53, Try.ntmps53
  go_wp2_with fail
  refine (cw _ (by (repeat (first | (with_reducible exact Below.refl _ _) | ((with_reducible refine below_alloc ?_ ?_ _); · (first | omega | (simp; done) | (simp; omega))) | ((with_reducible refine below_setCell ?_ ?_ _); · (first | omega | (simp; done) | (simp; omega))) | (with_reducible refine Below.drew ?_) | (with_reducible refine below_drewN ?_ _) | ((with_reducible refine below_call (by assumption) ?_ ?_); · (first | omega | (simp; done) | (simp; omega))))))).mono ?_; rintro e w1 ⟨v, rfl, hown, hb1⟩
  obtain ⟨hk1, hf1, hz1⟩ := bcellN (n := w.heap.size + 1) (by (try simp only [World.size_drew, World.size_alloc, World.size_setCell]); omega) hb1; have hz1_0 : w.heap.size < w1.heap.size := (by omega)
  obtain ⟨ao, cp, hve⟩ := rowI_shape hown
  subst hve
  have HO := Lib.hid hown
  clear hown cw
  go_wp2_with fail
  refine gen_world (F := fun wt => (wt.cell? ⟨w.heap.size, 0, none⟩ = some (.slice pn l.length cn) ∧ wt.cell? ⟨w.heap.size, 2, none⟩ = some (.slice (some ⟨bt, ot, none⟩) tl.length ct)) ∧ IsI wt (.slice ao L.length cp) L ∧ Below w.heap.size w wt ∧ w.heap.size < wt.heap.size) ⟨⟨by simp [go_sem, hk1], by simp [go_sem, hk1]⟩, HO.out.reads, by (repeat (first | (with_reducible exact Below.refl _ _) | ((with_reducible refine below_alloc ?_ ?_ _); · (first | omega | (simp; done) | (simp; omega))) | ((with_reducible refine below_setCell ?_ ?_ _); · (first | omega | (simp; done) | (simp; omega))) | (with_reducible refine Below.drew ?_) | (with_reducible refine below_drewN ?_ _) | ((with_reducible refine below_call (by assumption) ?_ ?_); · (first | omega | (simp; done) | (simp; omega))))), by omega⟩ (fun wt hF => ?_)
  obtain ⟨⟨e0, e2⟩, hLI, hB, hz⟩ := hF
  have HE := Lib.hid (And.intro e0 e2)
  have HLI := Lib.hid hLI
  clear hk1 hf1 hz1 hz1_0 hb1 HO hLI
  go_loop [6, 7] (fun c j => ∃ (k m : Nat), j = .int .i64 k ∧ c = .int .i64 m ∧ k ≤ l.length ∧ m = cntN (l.take k) i ∧ m ≤ k) (fun _ j => l.length - (intOf j).toNat)
  case atStart => exact ⟨0, 0, rfl, rfl, by omega, rfl, by omega⟩
  case round =>
    obtain ⟨k, m, rfl, rfl, hk, hm, hmk⟩ := hrel
    have HM2 := Lib.hid hm
    clear hm
    by_cases hlt : k < l.length
    · have hlt' : (k : Int) < l.length := by omega
      obtain ⟨b, off, rfl, d0, d1, d2⟩ := HN.out k hlt
      have c0 := Fr.at (W := w) (show Fr w wt from hB) d0
      have hstep := cntN_take l i k hlt
      obtain ⟨g, hg⟩ : ∃ g, l[k].1 = g := ⟨_, rfl⟩
      rw [hg] at c0 hstep
      have hm1 : (m : Int) ≤ 1048576 := by omega
      cases hgi : (g == (i : Int))
      · rw [hgi] at hstep
        have HS := Lib.hid hstep
        clear d0 d1 d2 hstep hg
        go_wp2
        go_round
        case rel => exact ⟨k + 1, m, by go_num, rfl, by omega, by rw [HS.out, ← HM2.out]; rfl, by omega⟩
        case measure => simp [intOf]; omega
      · rw [hgi] at hstep
        have HS := Lib.hid hstep
        clear d0 d1 d2 hstep hg
        go_wp2
        go_round
        case rel => exact ⟨k + 1, m + 1, by go_num, by go_num, by omega, by rw [HS.out, ← HM2.out]; rfl, by omega⟩
        case measure => simp [intOf]; omega
    · obtain rfl : k = l.length := by omega
      rw [List.take_length] at HM2
      by_cases hcm : L.length = m
      · have hcm' : ((L.length : Int) != m) = false := by simp [hcm]
        have hA : Hid (rightB (l, hd, tl) i = (prevOk l i (-1) L && tv == lastN (-1) L)) := Lib.hid (by rw [HRB.out, if_pos (by rw [← HM2.out]; exact hcm)])
        clear hcm hlt
        go_wp2
        go_loopw [8, 9] (fun pv j wr => ∃ (t : Nat) (pr : Int), pv = .int .i64 pr ∧ j = .int .i64 t ∧ t ≤ L.length ∧ prevOk l i (-1) L = prevOk l i pr (L.drop t) ∧ lastN (-1) L = lastN pr (L.drop t) ∧ Fr wt wr) (fun _ j _ => L.length - (intOf j).toNat)
        case atStart => exact ⟨0, -1, rfl, rfl, by omega, rfl, rfl, Fr.refl _⟩
        case round =>
          obtain ⟨t, pr, rfl, rfl, ht, hpo, hla, hF⟩ := hrel
          have HP := Lib.hid (And.intro hpo hla)
          have g0 := Fr.at hF HE.out.1
          have g2 := Fr.at hF HE.out.2
          have HF := Lib.hid hF
          clear hpo hla hF e0 e2
          by_cases htl : t < L.length
          · have htl' : (t : Int) < L.length := by omega
            obtain ⟨pa, ca, ea, ra⟩ := HLI.out
            obtain ⟨ba, oa, e1a, da⟩ := ra t htl
            simp only [Value.slice.injEq] at ea
            obtain ⟨ep, -, ec⟩ := ea
            rw [e1a] at ep
            obtain ⟨hm0, hm1⟩ := HM.out L[t] (List.getElem_mem _)
            have hdrop := List.drop_eq_getElem_cons htl
            obtain ⟨a, ha⟩ : ∃ a, L[t] = a := ⟨_, rfl⟩
            rw [ha] at da hm0 hm1 hdrop
            obtain ⟨k, rfl⟩ : ∃ k : Nat, a = k := ⟨a.toNat, by omega⟩
            have hkl : k < l.length := by omega
            obtain ⟨b, off, rfl, d0, d1, d2⟩ := HN.out k hkl
            have c0 := Fr.at (Fr.fin hB HF.out) d0
            have c2 := Fr.at (Fr.fin hB HF.out) d2
            have ca' := Fr.at HF.out da
            have hna := nodAt_lt l k hkl
            obtain ⟨x0, hx0⟩ : ∃ x, l[k].1 = x := ⟨_, rfl⟩
            obtain ⟨x2, hx2⟩ : ∃ x, l[k].2.2 = x := ⟨_, rfl⟩
            rw [hx0] at c0
            rw [hx2] at c2
            have hst : prevOk l i pr (L.drop t) = ((x0 == (i : Int) && x2 == pr) && prevOk l i k (L.drop (t + 1))) := by
              rw [hdrop]
              show (((nodAt l (k : Int).toNat).1 == (i : Int) && (nodAt l (k : Int).toNat).2.2 == pr) && prevOk l i k (L.drop (t + 1))) = _
              rw [Int.toNat_natCast, hna, hx0, hx2]
            have hst2 : lastN pr (L.drop t) = lastN k (L.drop (t + 1)) := by rw [hdrop]; rfl
            have HST := Lib.hid (And.intro hst hst2)
            clear ra da hdrop ha d0 d1 d2 hna hx0 hx2 hst hst2 e1a ec
            subst ep
            cases q0 : (x0 == (i : Int))
            · have hne0 : (x0 != (i : Int)) = true := by simp only [bne, q0]; rfl
              have hf : Hid (rightB (l, hd, tl) i = false) := Lib.hid (by rw [hA.out, HP.out.1, HST.out.1, q0]; rfl)
              go_wp2
              go_quiet (fail)
              go_wp2
              go_ret
              exact ⟨ret_bool hf.out.symm, by have hF := HF.out; unfold Fr at hF; (repeat (first | (with_reducible exact Below.refl _ _) | ((with_reducible refine below_alloc ?_ ?_ _); · (first | omega | (simp; done) | (simp; omega))) | ((with_reducible refine below_setCell ?_ ?_ _); · (first | omega | (simp; done) | (simp; omega))) | (with_reducible refine Below.drew ?_) | (with_reducible refine below_drewN ?_ _) | ((with_reducible refine below_call (by assumption) ?_ ?_); · (first | omega | (simp; done) | (simp; omega)))))⟩
            · have hne0 : (x0 != (i : Int)) = false := by simp only [bne, q0]; rfl
              cases q2 : (x2 == pr)
              · have hne2 : (x2 != pr) = true := by simp only [bne, q2]; rfl
                have hf : Hid (rightB (l, hd, tl) i = false) := Lib.hid (by rw [hA.out, HP.out.1, HST.out.1, q0, q2]; rfl)
                go_wp2
                go_quiet (fail)
                go_wp2
                go_ret
                exact ⟨ret_bool hf.out.symm, by have hF := HF.out; unfold Fr at hF; (repeat (first | (with_reducible exact Below.refl _ _) | ((with_reducible refine below_alloc ?_ ?_ _); · (first | omega | (simp; done) | (simp; omega))) | ((with_reducible refine below_setCell ?_ ?_ _); · (first | omega | (simp; done) | (simp; omega))) | (with_reducible refine Below.drew ?_) | (with_reducible refine below_drewN ?_ _) | ((with_reducible refine below_call (by assumption) ?_ ?_); · (first | omega | (simp; done) | (simp; omega)))))⟩
              · have hne2 : (x2 != pr) = false := by simp only [bne, q2]; rfl
                have hf : Hid (prevOk l i (-1) L = prevOk l i k (L.drop (t + 1)) ∧ lastN (-1) L = lastN k (L.drop (t + 1))) := Lib.hid ⟨by rw [HP.out.1, HST.out.1, q0, q2]; rfl, by rw [HP.out.2, HST.out.2]⟩
                go_wp2
                go_quiet (fail)
                go_wp2
                go_roundw
                case rel => exact ⟨t + 1, k, rfl, by go_num, by omega, hf.out.1, hf.out.2, below_drewN HF.out _⟩
                case measure => simp [intOf]; omega
          · obtain rfl : t = L.length := by omega
            rw [List.drop_length] at HP
            have hf : Hid (rightB (l, hd, tl) i = (tv == pr)) := Lib.hid (by rw [hA.out, HP.out.1, HP.out.2]; rfl)
            have c2 := Fr.at (Fr.fin hB HF.out) HDT.out
            go_wp2
            go_ret
            exact ⟨ret_bool hf.out.symm, by have hF := HF.out; unfold Fr at hF; (repeat (first | (with_reducible exact Below.refl _ _) | ((with_reducible refine below_alloc ?_ ?_ _); · (first | omega | (simp; done) | (simp; omega))) | ((with_reducible refine below_setCell ?_ ?_ _); · (first | omega | (simp; done) | (simp; omega))) | (with_reducible refine Below.drew ?_) | (with_reducible refine below_drewN ?_ _) | ((with_reducible refine below_call (by assumption) ?_ ?_); · (first | omega | (simp; done) | (simp; omega)))))⟩
      · have hcm' : ((L.length : Int) != m) = true := by simp; omega
        have hA : Hid (rightB (l, hd, tl) i = false) := Lib.hid (by rw [HRB.out, if_neg (by rw [← HM2.out]; exact hcm)])
        clear hcm hlt
        go_wp2
        go_ret
        exact ⟨ret_bool hA.out.symm, by (repeat (first | (with_reducible exact Below.refl _ _) | ((with_reducible refine below_alloc ?_ ?_ _); · (first | omega | (simp; done) | (simp; omega))) | ((with_reducible refine below_setCell ?_ ?_ _); · (first | omega | (simp; done) | (simp; omega))) | (with_reducible refine Below.drew ?_) | (with_reducible refine below_drewN ?_ _) | ((with_reducible refine below_call (by assumption) ?_ ?_); · (first | omega | (simp; done) | (simp; omega)))))⟩
end Go.Proofs.Ytkcenadenmkgnaa
