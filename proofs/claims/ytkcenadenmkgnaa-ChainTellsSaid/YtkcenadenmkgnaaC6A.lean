/- Contracts of layer 4, the document's: laid. -/
import Derived.Test.YtkcenadenmkgnaaC6M
import Derived.Maps.AppendAt
import Derived.Deep.AppendLies
namespace Go.Proofs.Ytkcenadenmkgnaa
open Go.RowKit
set_option linter.unusedVariables false
set_option linter.unusedSimpArgs false

theorem info_nodR : (Try.prog.info? 64).map (fun i => (i.zero, i.size, i.bytes)) = some (some (.agg #[.int .i64 0, .int .i64 0, .int .i64 0]), 3, 24) := by kernel_rfl
/-- v is a slice that reads as slices of these numbers -/
def IsII (w : World) (v : Value) (L : List (List Int)) : Prop :=
  ∃ p cap, v = .slice p L.length cap ∧ ∀ k (h : k < L.length), ∃ b off u, p = some ⟨b, off, none⟩ ∧ w.cell? ⟨b, off + k, none⟩ = some u ∧ IsI w u L[k]
theorem IsII.call {W w1 : World} {v : Value} {L : List (List Int)} (h : IsII W v L) (hb : Below W.heap.size W w1) : IsII w1 v L := by
  obtain ⟨p, cap, rfl, h⟩ := h
  refine ⟨p, cap, rfl, fun k hk => ?_⟩
  obtain ⟨b, off, u, rfl, hc, hi⟩ := h k hk
  exact ⟨b, off, u, rfl, (hb.cell (p := ⟨b, off + k, none⟩) (World.block_lt_of_cell? _ _ hc)).trans hc, hi.call hb⟩
theorem OwnII.reads {w : World} {B : Nat} {v : Value} {vs : List Value} {L : List (List Int)} (h : OwnII w B v vs L) : IsII w v L := by
  have hr := h.row
  rcases h.row.2 with ⟨hv, hn⟩ | ⟨g, cap, cur, hv, hB, hg, r⟩
  · exact ⟨none, 0, by rw [hv, hn], fun k hk => by omega⟩
  · subst hv
    refine ⟨_, cap, rfl, fun k hk => ?_⟩
    obtain ⟨u, h1, h2⟩ := h.inn k hk
    exact ⟨g, 0, u, rfl, by rw [Nat.zero_add, hr.cellAt k (by omega)]; exact h1, h2.reads⟩
theorem own_shape {w : World} {B : Nat} {E : TypeId} {z n : Nat} {v : Value} {xs : List Value} (h : w.ownsRow B E z v n xs) : ∃ ao cap, v = .slice ao n cap := by
  rcases h.2 with ⟨hv, h0⟩ | ⟨g, cap, cur, hv, _⟩
  · exact ⟨none, 0, by rw [hv, h0]⟩
  · exact ⟨_, _, hv⟩
theorem own_some {w : World} {B : Nat} {E : TypeId} {z n : Nat} {v : Value} {xs : List Value} (h : w.ownsRow B E z v n xs) (hn : 0 < n) : ∃ g cap, v = .slice (some ⟨g, 0, none⟩) n cap := by
  rcases h.2 with ⟨hv, h0⟩ | ⟨g, cap, cur, hv, _⟩
  · omega
  · exact ⟨_, _, hv⟩
theorem row_below6 {w : World} {B b o : Nat} {E : TypeId} {z m : Nat} {v u : Value} {xs : List Value} (h : w.ownsRow B E z v m xs) (hb : b < B) : (w.setCell ⟨b, o, none⟩ u).ownsRow B E z v m xs := by
  obtain ⟨h1, h2⟩ := h
  refine ⟨h1, ?_⟩
  rcases h2 with h2 | ⟨g, cap, cur, hv, hB, hg, r⟩
  · exact .inl h2
  · exact .inr ⟨g, cap, cur, hv, hB, (Below.heap_setCell w _ u g (by show g ≠ b; omega)).trans hg, r⟩
theorem row_off {w : World} {B b o : Nat} {E : TypeId} {z m : Nat} {v u : Value} {xs : List Value} (h : w.ownsRow B E z v m xs) (hb : ∀ q, v.ownBlock = some q → q ≠ b) : (w.setCell ⟨b, o, none⟩ u).ownsRow B E z v m xs := by
  obtain ⟨h1, h2⟩ := h
  refine ⟨h1, ?_⟩
  rcases h2 with h2 | ⟨g, cap, cur, hv, hB, hg, r⟩
  · exact .inl h2
  · exact .inr ⟨g, cap, cur, hv, hB, (Below.heap_setCell w _ u g (hb g (by rw [hv]; rfl))).trans hg, r⟩
/-- the state's box (block s + 1) and the result's (block s) -/
structure Bx (w : World) (s : Nat) (vn vh vt : Value) : Prop where
  b : w.cell? ⟨s + 1, 0, none⟩ = some vn ∧ w.cell? ⟨s + 1, 1, none⟩ = some vh ∧ w.cell? ⟨s + 1, 2, none⟩ = some vt
  r : w.cell? ⟨s, 0, none⟩ = some (.slice none 0 0) ∧ w.cell? ⟨s, 1, none⟩ = some (.slice none 0 0) ∧ w.cell? ⟨s, 2, none⟩ = some (.slice none 0 0)
  z : (∀ o, w.frozen? ⟨s + 1, o, none⟩ = false) ∧ ∀ o, w.frozen? ⟨s, o, none⟩ = false
section
variable {w w' : World} {s : Nat} {vn vh vt : Value}
theorem Bx.call (h : Bx w s vn vh vt) (hb : Below (s + 2) w w') : Bx w' s vn vh vt := by
  have c : ∀ b o, b < s + 2 → w'.cell? ⟨b, o, none⟩ = w.cell? ⟨b, o, none⟩ := fun b o hbs => hb.cell (p := ⟨b, o, none⟩) hbs
  have f : ∀ b o, b < s + 2 → w'.frozen? ⟨b, o, none⟩ = w.frozen? ⟨b, o, none⟩ := fun b o hbs => hb.frozen (p := ⟨b, o, none⟩) hbs
  obtain ⟨⟨a0, a1, a2⟩, ⟨r0, r1, r2⟩, z1, z2⟩ := h
  exact ⟨⟨(c _ _ (by omega)).trans a0, (c _ _ (by omega)).trans a1, (c _ _ (by omega)).trans a2⟩, ⟨(c _ _ (by omega)).trans r0, (c _ _ (by omega)).trans r1, (c _ _ (by omega)).trans r2⟩, fun o => (f _ _ (by omega)).trans (z1 o), fun o => (f _ _ (by omega)).trans (z2 o)⟩
theorem Bx.set {o : Nat} (h : Bx w s vn vh vt) (u : Value) {un uh ut : Value} (ho : (o = 0 ∧ un = u ∧ uh = vh ∧ ut = vt) ∨ (o = 1 ∧ un = vn ∧ uh = u ∧ ut = vt) ∨ (o = 2 ∧ un = vn ∧ uh = vh ∧ ut = u)) : Bx (w.setCell ⟨s + 1, o, none⟩ u) s un uh ut := by
  obtain ⟨⟨a0, a1, a2⟩, ⟨r0, r1, r2⟩, z1, z2⟩ := h
  have oth : ∀ b p v, (b ≠ s + 1 ∨ p ≠ o) → w.cell? ⟨b, p, none⟩ = some v → (w.setCell ⟨s + 1, o, none⟩ u).cell? ⟨b, p, none⟩ = some v := fun b p v hne hv => by
    rw [World.cell?_setCell_other _ _ _ _ (by intro e; simp at e; omega)]; exact hv
  refine ⟨?_, ⟨oth _ _ _ (.inl (by omega)) r0, oth _ _ _ (.inl (by omega)) r1, oth _ _ _ (.inl (by omega)) r2⟩, fun p => by rw [World.frozen?_setCell]; exact z1 p, fun p => by rw [World.frozen?_setCell]; exact z2 p⟩
  rcases ho with ⟨rfl, rfl, rfl, rfl⟩ | ⟨rfl, rfl, rfl, rfl⟩ | ⟨rfl, rfl, rfl, rfl⟩
  · exact ⟨World.cell?_setCell_same _ _ _ a0, oth _ _ _ (.inr (by decide)) a1, oth _ _ _ (.inr (by decide)) a2⟩
  · exact ⟨oth _ _ _ (.inr (by decide)) a0, World.cell?_setCell_same _ _ _ a1, oth _ _ _ (.inr (by decide)) a2⟩
  · exact ⟨oth _ _ _ (.inr (by decide)) a0, oth _ _ _ (.inr (by decide)) a1, World.cell?_setCell_same _ _ _ a2⟩
end
/-- v lies in block B or behind it -/
def FromB (B : Nat) (v : Value) : Prop := ∀ b o s n c, v = .slice (some ⟨b, o, s⟩) n c → B ≤ b
theorem own_from {w : World} {B : Nat} {E : TypeId} {z n : Nat} {v : Value} {xs : List Value} (h : w.ownsRow B E z v n xs) : FromB B v := by
  intro b o s n' c e
  rcases h.2 with ⟨hv, hn⟩ | ⟨g', cap, cur, hv, hB, r⟩
  · rw [hv] at e; cases e
  · rw [hv] at e; cases e; exact hB
theorem FromB.mono {B B' : Nat} {v : Value} (h : FromB B v) (hB : B' ≤ B) : FromB B' v := fun b o s n c e => Nat.le_trans hB (h b o s n c e)
/-- three slices in new memory -/
def From3 (B : Nat) (vn vh vt : Value) : Prop := FromB B vn ∧ FromB B vh ∧ FromB B vt
theorem From3.mono {B B' : Nat} {vn vh vt : Value} (h : From3 B vn vh vt) (hB : B' ≤ B) : From3 B' vn vh vt := ⟨h.1.mono hB, h.2.1.mono hB, h.2.2.mono hB⟩
theorem IsI.from {w : World} {B b o : Nat} {v x : Value} {l : List Int} (h : IsI w v l) (hf : FromB B v) (hb : b < B) : IsI (w.setCell ⟨b, o, none⟩ x) v l := by
  obtain ⟨p, cap, rfl, h⟩ := h
  refine ⟨p, cap, rfl, fun j hj => ?_⟩
  obtain ⟨b', off, rfl, hc⟩ := h j hj
  have := hf b' off none _ _ rfl
  exact ⟨b', off, rfl, by rw [World.cell?_setCell_other _ _ _ _ (by intro e; have := congrArg Addr.block e; simp at this; omega)]; exact hc⟩
theorem IsN.from {w : World} {B b o : Nat} {v x : Value} {l : List Nod} (h : IsN w v l) (hf : FromB B v) (hb : b < B) : IsN (w.setCell ⟨b, o, none⟩ x) v l := by
  obtain ⟨p, cap, rfl, h⟩ := h
  refine ⟨p, cap, rfl, fun j hj => ?_⟩
  obtain ⟨b', off, rfl, h0, h1, h2⟩ := h j hj
  have := hf b' off none _ _ rfl
  exact ⟨b', off, rfl, by rw [World.cell?_setCell_other _ _ _ _ (by intro e; have := congrArg Addr.block e; simp at this; omega)]; exact h0, by rw [World.cell?_setCell_other _ _ _ _ (by intro e; have := congrArg Addr.block e; simp at this; omega)]; exact h1, by rw [World.cell?_setCell_other _ _ _ _ (by intro e; have := congrArg Addr.block e; simp at this; omega)]; exact h2⟩
theorem IsLS.from {w : World} {B b o : Nat} {vn vh vt x : Value} {st : LSt} (h : IsLS w vn vh vt st) (hf : From3 B vn vh vt) (hb : b < B) : IsLS (w.setCell ⟨b, o, none⟩ x) vn vh vt st := ⟨IsN.from h.1 hf.1 hb, IsI.from h.2.1 hf.2.1 hb, IsI.from h.2.2 hf.2.2 hb⟩
theorem OwnR.nod {w : World} {B n g cap : Nat} {l : List Nod} {E : TypeId} (h : w.ownsRow B E 3 (.slice (some ⟨g, 0, none⟩) n cap) n (nodF l)) (hl : l.length = n) {j : Nat} (hj : j < n) :
    w.cell? ⟨g, j * 3, none⟩ = some (.int .i64 (nodAt l j).1) ∧ w.cell? ⟨g, j * 3 + 1, none⟩ = some (.int .i64 (nodAt l j).2.1) ∧ w.cell? ⟨g, j * 3 + 2, none⟩ = some (.int .i64 (nodAt l j).2.2) := by
  obtain ⟨g0, g1, g2⟩ := nodF_get l j (by omega)
  rw [nodAt_lt _ _ (by omega)]
  exact ⟨by rw [h.cellAt _ (by omega), g0], by rw [h.cellAt _ (by omega), g1], by rw [h.cellAt _ (by omega), g2]⟩
theorem take_getD (l : List Int) (i : Nat) (h : i < l.length) : l.take (i + 1) = l.take i ++ [l.getD i (-1)] := by
  rw [List.take_succ_eq_append_getElem h]; simp [List.getD, h]
theorem nodF_rep (k : Nat) : nodF (List.replicate (k + 1) ((-1, -1, -1) : Nod)) = nodF (List.replicate k ((-1, -1, -1) : Nod)) ++ [.int .i64 (-1), .int .i64 (-1), .int .i64 (-1)] := by
  rw [List.replicate_succ']
  show List.flatMap nodVs _ = _
  rw [List.flatMap_append]; rfl

set_option maxRecDepth 100000 in
set_option maxHeartbeats 4000000 in
theorem laid_any (n : Nat) (v : Value) (L : List (List Int)) (w : World) (hv : IsII w v L) (hg : GoodL n L) (hn : 1 ≤ n ∧ n ≤ 64) (hk : L.length ≤ 8) :
    Calls Try.prog 41 #[.int .i64 n, v] w fun e w' => ∃ vn vh vt, e = .returned (.agg #[vn, vh, vt]) ∧ IsLS w' vn vh vt (laidS n L) ∧ From3 w.heap.size vn vh vt ∧ Below w.heap.size w w' := by
  obtain ⟨i0, hi, hj0, hj1, hj2⟩ := info_parts info_nodR
  obtain ⟨i1, gi, gj0, gj1, gj2⟩ := info_parts info_int
  have HV := Lib.hid hv
  obtain ⟨pv, cv, rfl, hvv⟩ := hv
  have HVV := Lib.hid hvv
  have HG := Lib.hid hg
  have hn1 : (1 : Int) ≤ n := by omega
  have hn2 : (n : Int) ≤ 64 := by omega
  have hk2 : (L.length : Int) ≤ 8 := by omega
  clear hvv hg
  go_enter Try.func41, Try.ntmps41
  go_wp2
  refine gen_world (F := fun wt => Bx wt w.heap.size (.slice none 0 0) (.slice none 0 0) (.slice none 0 0) ∧ Below w.heap.size w wt ∧ w.heap.size + 2 ≤ wt.heap.size) ⟨⟨⟨by simp [go_sem], by simp [go_sem], by simp [go_sem]⟩, ⟨by simp [go_sem], by simp [go_sem], by simp [go_sem]⟩, ⟨fun o => by simp [go_sem], fun o => by simp [go_sem]⟩⟩, by (repeat (first | (with_reducible exact Below.refl _ _) | ((with_reducible refine below_alloc ?_ ?_ _); · (first | omega | (simp; done) | (simp; omega))) | ((with_reducible refine below_setCell ?_ ?_ _); · (first | omega | (simp; done) | (simp; omega))) | (with_reducible refine Below.drew ?_) | (with_reducible refine below_drewN ?_ _) | ((with_reducible refine below_call (by assumption) ?_ ?_); · (first | omega | (simp; done) | (simp; omega))))), by simp⟩ (fun wt hF => ?_)
  obtain ⟨hX, hB, hz⟩ := hF
  have HX := Lib.hid (And.intro hX hB)
  clear hX hB
  go_loopw [6] (fun ii wr => ∃ (k : Nat) (vn : Value), ii = .int .i64 k ∧ k ≤ n ∧ Bx wr w.heap.size vn (.slice none 0 0) (.slice none 0 0) ∧ wr.ownsRow (w.heap.size + 2) 64 3 vn k (nodF (List.replicate k ((-1, -1, -1) : Nod))) ∧ Below w.heap.size w wr ∧ w.heap.size + 2 ≤ wr.heap.size) (fun ii _ => n - (intOf ii).toNat)
  case atStart => exact ⟨0, .slice none 0 0, rfl, Nat.zero_le _, HX.out.1, World.ownsRow_nil _ _ _ _, HX.out.2, hz⟩
  case round =>
    obtain ⟨k, vn, rfl, hkn, hX, hO, hB, hzr⟩ := hrel
    obtain ⟨ao, cp, rfl⟩ := own_shape hO
    obtain ⟨⟨e0, e1, e2⟩, -, z1, -⟩ := id hX
    have HX2 := Lib.hid hX
    have HO := Lib.hid hO
    have HB := Lib.hid hB
    have hkn' : (k : Int) ≤ n := by omega
    clear hX hO hB
    by_cases hlt : k < n
    · have hlt' : (k : Int) < n := by omega
      go_wp2_with (at_builtin; (conv => skip); refine stopHere ?_)
      refine And.intro ?_ trivial
      refine wpList_append_own_at _ rfl _ _ 22 rfl (w.heap.size + 2) 64 i0 (.agg #[.int .i64 0, .int .i64 0, .int .i64 0]) 3 24 Try.underlying22 hi hj0 hj1 hj2 rfl (by decide) _ k (nodF (List.replicate k ((-1, -1, -1) : Nod))) rfl (HO.out.alloc _) ⟨wr.heap.size, 0, none⟩ 1 1 [.int .i64 (-1), .int .i64 (-1), .int .i64 (-1)] rfl rfl (World.news_of_block (heap_alloc_new wr _)) (by simp [Value.oneCell']) (by unfold maxLen; omega) (by omega) (by simp; omega) ?_
      intro v' w3 hown' hgr _ hat
      have hb3 : Below (w.heap.size + 2) wr w3 := ((Below.refl _ _).alloc (by omega) _).grown hgr (by simp; omega) (fun q hq => (World.ownsRow.lt HO.out q hq).1)
      obtain ⟨ao', cp', rfl⟩ := own_shape hown'
      have hX3 := HX2.out.call hb3
      obtain ⟨⟨x0, x1, x2⟩, -, y1, -⟩ := id hX3
      have hs3 := hb3.size
      have H3 := Lib.hid (And.intro hX3 (And.intro hown' (HB.out.trans (hb3.mono (by omega)))))
      clear hown' hgr hat hb3 hX3 e0 e1 e2 z1
      go_wp2_with fail
      go_roundw
      case rel => exact ⟨k + 1, .slice ao' (k + 1) cp', by go_num, by omega, H3.out.1.set _ (.inl ⟨rfl, rfl, rfl, rfl⟩), by rw [nodF_rep]; exact row_below6 H3.out.2.1 (by omega), below_at H3.out.2.2 _ (by omega), by simp only [World.size_setCell]; omega⟩
      case measure => simp [intOf]; omega
    · obtain rfl : k = n := by omega
      clear hlt
      obtain ⟨gn, cn, hve⟩ := own_some HO.out (by omega)
      cases hve
      have hS0 : Hid ((layS k L 0).1 = List.replicate k ((-1, -1, -1) : Nod)) := Lib.hid rfl
      obtain ⟨wo, hwo⟩ : ∃ x, x = wr := ⟨_, rfl⟩
      subst hwo
      clear e0 e1 e2 z1
      go_wp2_with fail
      go_loopw [7] (fun ii wr => ∃ (i : Nat) (vh vt : Value), ii = .int .i64 i ∧ i ≤ L.length ∧ Bx wr w.heap.size (.slice (some ⟨gn, 0, none⟩) k cp) vh vt ∧ wr.ownsRow (w.heap.size + 2) 64 3 (.slice (some ⟨gn, 0, none⟩) k cp) k (nodF (layS k L i).1) ∧
        wr.ownsRow (w.heap.size + 2) 3 1 vh i (((layS k L i).2.1.take i).map (Value.int .i64)) ∧ wr.ownsRow (w.heap.size + 2) 3 1 vt i (((layS k L i).2.2.take i).map (Value.int .i64)) ∧
        (∀ q, vh.ownBlock = some q → q ≠ gn) ∧ (∀ q, vt.ownBlock = some q → q ≠ gn) ∧ (∀ q, vh.ownBlock = some q → vt.ownBlock = some q → False) ∧ Below w.heap.size w wr ∧ w.heap.size + 2 ≤ wr.heap.size) (fun ii _ => L.length - (intOf ii).toNat)
      case atStart => exact ⟨0, .slice none 0 0, .slice none 0 0, rfl, Nat.zero_le _, HX2.out, by rw [hS0.out]; exact HO.out, World.ownsRow_nil _ _ _ _, World.ownsRow_nil _ _ _ _, (fun q h => by cases h), (fun q h => by cases h), (fun q h => by cases h), HB.out, hzr⟩
      case round =>
        clear hzr
        obtain ⟨i, vh, vt, rfl, hil, hX, hN, hH, hT, dh, dt, dd, hB, hzr⟩ := hrel
        obtain ⟨ah, ch, rfl⟩ := own_shape hH
        obtain ⟨at', ct, rfl⟩ := own_shape hT
        have HXr := Lib.hid hX
        have HNr := Lib.hid hN
        have HHr := Lib.hid hH
        have HTr := Lib.hid hT
        have HDr := Lib.hid (And.intro dh (And.intro dt dd))
        have HBr := Lib.hid hB
        have hil' : (i : Int) ≤ L.length := by omega
        clear HX2 HO HB hX hN hH hT dh dt dd hB
        by_cases hlt : i < L.length
        · have hlt' : (i : Int) < L.length := by omega
          have eL : L.getD i [] = L[i] := by simp [List.getD, hlt]
          obtain ⟨b, off, u, rfl, d0, hui⟩ := HVV.out i hlt
          obtain ⟨pu, cu, rfl, hur⟩ := hui
          have HD0 := Lib.hid d0
          have HUR := Lib.hid hur
          obtain ⟨X, hXe⟩ : ∃ X, L[i] = X := ⟨_, rfl⟩
          rw [hXe] at HD0 HUR eL
          have hEL := Lib.hid eL
          have hXlen : X.length ≤ k := by
            have := nodup_bd (HG.out.nd i hlt) (HG.out.bd i hlt)
            rw [hXe] at this; exact this
          have hXl2 : (X.length : Int) ≤ 64 := by omega
          have hlenT := fun t => layT_len k L i t
          have HLT := Lib.hid hlenT
          clear d0 hur eL hXe hlenT
          go_wp2_with fail
          go_loopw [8, 9, 10] (fun pv hv kk wr2 => ∃ (t : Nat), kk = .int .i64 t ∧ pv = .int .i64 ((layT k L i t).2.2.getD i (-1)) ∧ hv = .int .i64 ((layT k L i t).2.1.getD i (-1)) ∧ t ≤ X.length ∧ Bx wr2 w.heap.size (.slice (some ⟨gn, 0, none⟩) k cp) (.slice ah i ch) (.slice at' i ct) ∧ wr2.ownsRow (w.heap.size + 2) 64 3 (.slice (some ⟨gn, 0, none⟩) k cp) k (nodF (layT k L i t).1) ∧
            wr2.ownsRow (w.heap.size + 2) 3 1 (.slice ah i ch) i (((layT k L i t).2.1.take i).map (Value.int .i64)) ∧ wr2.ownsRow (w.heap.size + 2) 3 1 (.slice at' i ct) i (((layT k L i t).2.2.take i).map (Value.int .i64)) ∧ Below w.heap.size w wr2 ∧ w.heap.size + 2 ≤ wr2.heap.size) (fun _ _ kk _ => X.length - (intOf kk).toNat)
          case atStart =>
            obtain ⟨s1, s2⟩ := lay_start HG.out hlt
            refine ⟨0, rfl, by rw [s1], by rw [s2], Nat.zero_le _, HXr.out, ?_, ?_, ?_, HBr.out, hzr⟩
            · rw [layT_zero]; exact HNr.out
            · rw [layT_zero]; exact HHr.out
            · rw [layT_zero]; exact HTr.out
          case round =>
            obtain ⟨t, rfl, rfl, rfl, htl, hX2, hN2, hH2, hT2, hB2, hz2⟩ := hrel
            obtain ⟨⟨e0, e1, e2⟩, -, z1, -⟩ := id hX2
            have HX3 := Lib.hid hX2
            have HN3 := Lib.hid hN2
            have HH3 := Lib.hid hH2
            have HT3 := Lib.hid hT2
            have HB3 := Lib.hid hB2
            have d0 := (hB2.cell (p := ⟨b, off + i, none⟩) (World.block_lt_of_cell? _ _ HD0.out)).trans HD0.out
            have hgn := own_lt hN2
            have fz := fun o => hN2.frozenAt o
            clear hX2 hN2 hH2 hT2 hB2
            by_cases htx : t < X.length
            · have htx' : (t : Int) < X.length := by omega
              obtain ⟨x, p, hx, hxn, hp, hpr, hpx, hs1, hs2, hs3, hs4, hs5⟩ := lay_facts HG.out hlt hEL.out htx
              rw [hp]
              obtain ⟨hh, hhe⟩ : ∃ y, (layT k L i t).2.1.getD i (-1) = y := ⟨_, rfl⟩
              rw [hhe] at hs2 ⊢
              obtain ⟨bu, ou, rfl, du⟩ := HUR.out t htx
              rw [hx] at du
              have du' := (HB3.out.cell (p := ⟨bu, ou + t, none⟩) (World.block_lt_of_cell? _ _ du)).trans du
              have hxn' : (x : Int) < k := by omega
              have hx0 : (0 : Int) ≤ x := by omega
              obtain ⟨q0, q1, q2⟩ := OwnR.nod HN3.out (HLT.out t).1 hxn
              have HS := Lib.hid (And.intro hs3 (And.intro hs4 hs5))
              have hne1 : gn ≠ w.heap.size + 1 := by omega
              have hne1' := hne1.symm
              clear hx hp hhe hs3 hs4 hs5 du
              by_cases hp0 : p < 0
              · have HS1 := Lib.hid (hs1 hp0)
                clear hs1 hs2 hpx
                have hp1 : ¬ 0 ≤ p := by omega
                go_wp2_with fail
                go_roundw
                case rel =>
                  refine ⟨t + 1, by go_num, by rw [HS.out.1], by rw [HS1.out.2], by omega, ?_, ?_, ?_, ?_, ?_, ?_⟩
                  · exact HX3.out.call (below_at (below_at (below_at (Below.refl _ _) _ (by omega)) _ (by omega)) _ (by omega))
                  · rw [HS1.out.1, ← nodF_set _ _ _ (by rw [(HLT.out t).1]; exact hxn)]
                    exact (((HN3.out.stored _ _).1.stored _ _).1.stored _ _).1
                  · rw [HS.out.2.1]; exact row_off (row_off (row_off HH3.out HDr.out.1) HDr.out.1) HDr.out.1
                  · rw [HS.out.2.2]; exact row_off (row_off (row_off HT3.out HDr.out.2.1) HDr.out.2.1) HDr.out.2.1
                  · exact below_at (below_at (below_at HB3.out _ (by omega)) _ (by omega)) _ (by omega)
                  · simp only [World.size_setCell]; omega
                case measure => simp [intOf]; omega
              · obtain ⟨y, rfl⟩ : ∃ y : Nat, p = y := ⟨p.toNat, by omega⟩
                have HS2 := Lib.hid (hs2 (by omega))
                have hyn : y < k := by omega
                have hyn' : (y : Int) < k := by omega
                have hy0 : (0 : Int) ≤ y := by omega
                have hyx : y ≠ x := fun e => hpx (by rw [e])
                obtain ⟨v0, v1, v2⟩ := OwnR.nod HN3.out (HLT.out t).1 hyn
                have w0 : ¬ (y * 3 + 1 = x * 3) := by omega
                have w1 : ¬ (y * 3 + 1 = x * 3 + 1) := by omega
                have w2 : ¬ (y * 3 + 1 = x * 3 + 2) := by omega
                clear hs1 hs2 hpx hp0 v0 v2
                go_wp2_with fail
                go_roundw
                case rel =>
                  refine ⟨t + 1, by go_num, by rw [HS.out.1], by rw [HS2.out.2], by omega, ?_, ?_, ?_, ?_, ?_, ?_⟩
                  · exact HX3.out.call (below_at (below_at (below_at (below_at (Below.refl _ _) _ (by omega)) _ (by omega)) _ (by omega)) _ (by omega))
                  · rw [HS2.out.1, Int.toNat_natCast, ← nodF_set1 _ _ _ (by rw [List.length_set, (HLT.out t).1]; exact hyn), ← nodF_set _ _ _ (by rw [(HLT.out t).1]; exact hxn)]
                    exact ((((HN3.out.stored _ _).1.stored _ _).1.stored _ _).1.stored _ _).1
                  · rw [HS.out.2.1]; exact row_off (row_off (row_off (row_off HH3.out HDr.out.1) HDr.out.1) HDr.out.1) HDr.out.1
                  · rw [HS.out.2.2]; exact row_off (row_off (row_off (row_off HT3.out HDr.out.2.1) HDr.out.2.1) HDr.out.2.1) HDr.out.2.1
                  · exact below_at (below_at (below_at (below_at HB3.out _ (by omega)) _ (by omega)) _ (by omega)) _ (by omega)
                  · simp only [World.size_setCell]; omega
                case measure => simp [intOf]; omega
            · obtain rfl : t = X.length := by omega
              have hfull : layT k L i X.length = layS k L (i + 1) := by
                have h := layT_full k L i
                rw [hEL.out] at h; exact h
              obtain ⟨l1, l2, l3⟩ := HLT.out X.length
              obtain ⟨p, hp⟩ : ∃ y, (layT k L i X.length).2.2.getD i (-1) = y := ⟨_, rfl⟩
              obtain ⟨hh, hhe⟩ : ∃ y, (layT k L i X.length).2.1.getD i (-1) = y := ⟨_, rfl⟩
              have HH4 : Hid ((layS k L (i + 1)).2.1.take (i + 1) = (layT k L i X.length).2.1.take i ++ [hh]) := Lib.hid (by rw [← hfull, take_getD _ _ (by rw [l2]; exact hlt), hhe])
              have HT4 : Hid ((layS k L (i + 1)).2.2.take (i + 1) = (layT k L i X.length).2.2.take i ++ [p]) := Lib.hid (by rw [← hfull, take_getD _ _ (by rw [l3]; exact hlt), hp])
              have HN4 : Hid (wr.ownsRow (w.heap.size + 2) 64 3 (.slice (some ⟨gn, 0, none⟩) k cp) k (nodF (layS k L (i + 1)).1)) := Lib.hid (by rw [← hfull]; exact HN3.out)
              have hi8 : i ≤ 8 := by omega
              rw [hp, hhe]
              clear hfull l1 l2 l3 hp hhe htx
              go_wp2_with (at_builtin; (conv => skip); refine stopHere ?_)
              refine And.intro ?_ trivial
              refine wpList_append_own_at _ rfl _ _ 23 rfl (w.heap.size + 2) 3 i1 (.int .i64 0) 1 8 Try.underlying23 gi gj0 gj1 gj2 rfl (by decide) _ i (((layT k L i X.length).2.1.take i).map (Value.int .i64)) rfl (HH3.out.alloc _) ⟨wr.heap.size, 0, none⟩ 1 1 [.int .i64 hh] rfl rfl (cell_one_new _ _ _) (by simp [Value.oneCell']) (by unfold maxLen; omega) (by omega) (by simp; omega) ?_
              intro v' w3 hown' hgr _ hat
              have hb3 : Below (w.heap.size + 2) wr w3 := ((Below.refl _ _).alloc (by omega) _).grown hgr (by simp; omega) (fun q hq => (World.ownsRow.lt HH3.out q hq).1)
              have hN5 := row_grown (HN4.out.alloc (.cells #[.int .i64 hh] 3)) hgr (fun q hq e => by cases hq; exact HDr.out.1 gn e.symm rfl)
              have hT5 := row_grown (HT3.out.alloc (.cells #[.int .i64 hh] 3)) hgr (fun q hq e => HDr.out.2.2 q e.symm hq)
              have hdh : ∀ q, v'.ownBlock = some q → q ≠ gn := fun q hq => by
                rcases hat with hat | hat
                · exact HDr.out.1 q (hat ▸ hq)
                · rw [hat] at hq; cases hq; simp; omega
              have hdd : ∀ q, v'.ownBlock = some q → (Value.slice at' i ct).ownBlock = some q → False := fun q hq hq2 => by
                rcases hat with hat | hat
                · exact HDr.out.2.2 q (hat ▸ hq) hq2
                · rw [hat] at hq; cases hq
                  have := (World.ownsRow.lt HT3.out _ hq2).2
                  simp at this; omega
              obtain ⟨ah', ch', rfl⟩ := own_shape hown'
              have hX5 := HX3.out.call hb3
              obtain ⟨⟨x0, x1, x2⟩, -, y1, -⟩ := id hX5
              have hs3 := hb3.size
              have HX5 := Lib.hid (hX5.set (o := 1) (.slice ah' (i + 1) ch') (.inr (.inl ⟨rfl, rfl, rfl, rfl⟩)))
              have HN5 := Lib.hid (row_below6 (b := w.heap.size + 1) (o := 1) (u := .slice ah' (i + 1) ch') hN5 (by omega))
              have HT5 := Lib.hid (row_below6 (b := w.heap.size + 1) (o := 1) (u := .slice ah' (i + 1) ch') hT5 (by omega))
              have HH5 := Lib.hid (row_below6 (b := w.heap.size + 1) (o := 1) (u := .slice ah' (i + 1) ch') hown' (by omega))
              have HD5 := Lib.hid (And.intro hdh hdd)
              have HB5 := Lib.hid (below_at (HB3.out.trans (hb3.mono (by omega))) (b := w.heap.size + 1) (o := 1) (.slice ah' (i + 1) ch') (by omega))
              clear hown' hgr hat hb3 hN5 hT5 hX5 hdh hdd e0 e1 e2 z1 HN3 HN4 HX3 HH3 HT3 HB3 d0
              go_wp2_with (at_builtin; (conv => skip); refine stopHere ?_)
              refine And.intro ?_ trivial
              refine wpList_append_own_at _ rfl _ _ 23 rfl (w.heap.size + 2) 3 i1 (.int .i64 0) 1 8 Try.underlying23 gi gj0 gj1 gj2 rfl (by decide) _ i (((layT k L i X.length).2.2.take i).map (Value.int .i64)) rfl (HT5.out.alloc _) ⟨w3.heap.size, 0, none⟩ 1 1 [.int .i64 p] rfl rfl (by have h := cell_one_new (w3.setCell ⟨w.heap.size + 1, 1, none⟩ (.slice ah' (i + 1) ch')) (Value.int .i64 p) 3; rw [World.size_setCell] at h; exact h) (by simp [Value.oneCell']) (by unfold maxLen; omega) (by omega) (by simp; omega) ?_
              intro v'' w4 hown'' hgr' _ hat'
              have hb4 : Below (w.heap.size + 2) (w3.setCell ⟨w.heap.size + 1, 1, none⟩ (.slice ah' (i + 1) ch')) w4 := ((Below.refl _ _).alloc (by simp; omega) _).grown hgr' (by simp; omega) (fun q hq => (World.ownsRow.lt HT5.out q hq).1)
              have hN6 := row_grown (HN5.out.alloc (.cells #[.int .i64 p] 3)) hgr' (fun q hq e => by cases hq; exact HDr.out.2.1 gn e.symm rfl)
              have hH6 := row_grown (HH5.out.alloc (.cells #[.int .i64 p] 3)) hgr' (fun q hq e => HD5.out.2 q hq e.symm)
              have hdt : ∀ q, v''.ownBlock = some q → q ≠ gn := fun q hq => by
                rcases hat' with hat' | hat'
                · exact HDr.out.2.1 q (hat' ▸ hq)
                · rw [hat'] at hq; cases hq; simp; omega
              have hdd : ∀ q, (Value.slice ah' (i + 1) ch').ownBlock = some q → v''.ownBlock = some q → False := fun q hq2 hq => by
                rcases hat' with hat' | hat'
                · exact HD5.out.2 q hq2 (hat' ▸ hq)
                · rw [hat'] at hq; cases hq
                  have := (World.ownsRow.lt HH5.out _ hq2).2
                  simp at this; omega
              obtain ⟨at'', ct', rfl⟩ := own_shape hown''
              have hX6 := HX5.out.call hb4
              obtain ⟨⟨x0', x1', x2'⟩, -, y1', -⟩ := id hX6
              have hs4 := hb4.size
              simp only [World.size_setCell] at hs4
              have HX6 := Lib.hid (hX6.set (o := 2) (.slice at'' (i + 1) ct') (.inr (.inr ⟨rfl, rfl, rfl, rfl⟩)))
              have HN6 := Lib.hid (row_below6 (b := w.heap.size + 1) (o := 2) (u := .slice at'' (i + 1) ct') hN6 (by omega))
              have HH6 := Lib.hid (row_below6 (b := w.heap.size + 1) (o := 2) (u := .slice at'' (i + 1) ct') hH6 (by omega))
              have HT6 := Lib.hid (row_below6 (b := w.heap.size + 1) (o := 2) (u := .slice at'' (i + 1) ct') hown'' (by omega))
              have HD6 := Lib.hid (And.intro hdt hdd)
              have HB6 := Lib.hid (below_at (HB5.out.trans (hb4.mono (by omega))) (b := w.heap.size + 1) (o := 2) (.slice at'' (i + 1) ct') (by omega))
              clear hown'' hgr' hat' hb4 hN6 hH6 hX6 hdt hdd x0 x1 x2 y1 HX5 HN5 HT5 HH5 HB5
              go_wp2_with fail
              go_roundw
              case rel =>
                refine ⟨i + 1, .slice ah' (i + 1) ch', .slice at'' (i + 1) ct', by go_num, by omega, HX6.out, HN6.out, ?_, ?_, HD5.out.1, HD6.out.1, HD6.out.2, HB6.out, by simp only [World.size_setCell]; omega⟩
                · rw [HH4.out, List.map_append]; exact HH6.out
                · rw [HT4.out, List.map_append]; exact HT6.out
              case measure => simp [intOf]; omega
        · obtain rfl : i = L.length := by omega
          obtain ⟨⟨e0, e1, e2⟩, ⟨r0, r1, r2⟩, z1, z0⟩ := id HXr.out
          obtain ⟨l1, l2, l3⟩ := laidS_len k L
          have hH9 := HHr.out
          rw [show (layS k L L.length).2.1.take L.length = (laidS k L).2.1 from List.take_of_length_le (by rw [show layS k L L.length = laidS k L from rfl, l2]; exact Nat.le_refl _)] at hH9
          have hT9 := HTr.out
          rw [show (layS k L L.length).2.2.take L.length = (laidS k L).2.2 from List.take_of_length_le (by rw [show layS k L L.length = laidS k L from rfl, l3]; exact Nat.le_refl _)] at hT9
          have H9 := Lib.hid (And.intro (row_below6 (row_below6 (row_below6 (b := w.heap.size) (o := 0) (u := .slice (some ⟨gn, 0, none⟩) k cp) HNr.out (by omega)) (b := w.heap.size) (o := 1) (u := .slice ah L.length ch) (by omega)) (b := w.heap.size) (o := 2) (u := .slice at' L.length ct) (by omega))
            (And.intro (row_below6 (row_below6 (row_below6 (b := w.heap.size) (o := 0) (u := .slice (some ⟨gn, 0, none⟩) k cp) hH9 (by omega)) (b := w.heap.size) (o := 1) (u := .slice ah L.length ch) (by omega)) (b := w.heap.size) (o := 2) (u := .slice at' L.length ct) (by omega))
              (row_below6 (row_below6 (row_below6 (b := w.heap.size) (o := 0) (u := .slice (some ⟨gn, 0, none⟩) k cp) hT9 (by omega)) (b := w.heap.size) (o := 1) (u := .slice ah L.length ch) (by omega)) (b := w.heap.size) (o := 2) (u := .slice at' L.length ct) (by omega))))
          have HLL := Lib.hid (And.intro l1 (And.intro l2 l3))
          clear hH9 hT9 l1 l2 l3 hlt
          go_wp2_with fail
          refine bodyPost_ret (v := .agg #[.slice (some ⟨gn, 0, none⟩) k cp, .slice ah L.length ch, .slice at' L.length ct]) (by simp [results, Try.results41, go_sem, r0, r1, r2, z0]) rfl ⟨_, _, _, rfl, ⟨OwnN.reads (E := 64) (B := w.heap.size + 2) ?_, OwnI.reads (B := w.heap.size + 2) ?_, OwnI.reads (B := w.heap.size + 2) ?_⟩, ⟨(own_from HNr.out).mono (by omega), (own_from HHr.out).mono (by omega), (own_from HTr.out).mono (by omega)⟩, below_at (below_at (below_at HBr.out _ (by omega)) _ (by omega)) _ (by omega)⟩
          · show World.ownsRow _ _ _ _ _ _ _; rw [HLL.out.1]; exact H9.out.1
          · show World.ownsRow _ _ _ _ _ _ _; rw [HLL.out.2.1]; exact H9.out.2.1
          · show World.ownsRow _ _ _ _ _ _ _; rw [HLL.out.2.2]; exact H9.out.2.2
end Go.Proofs.Ytkcenadenmkgnaa
