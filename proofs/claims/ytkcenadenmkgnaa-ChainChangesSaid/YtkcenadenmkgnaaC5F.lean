/- Layer 4, the program's: rows of places that a call owns; slices.Clone of both; copied. -/
import Derived.Test.YtkcenadenmkgnaaC4H
import Derived.Test.YtkcenadenmkgnaaC5A
import Derived.Laws.OwnMore
import Derived.Lib.LazyBuf
import Derived.Deep.RegionHeld3
namespace Go.Proofs.Ytkcenadenmkgnaa
open Go.RowKit
set_option linter.unusedVariables false
set_option linter.unusedSimpArgs false

theorem info_nod : (Try.prog.info? 63).map (fun i => (i.zero, i.size, i.bytes)) = some (some (.agg #[.int .i64 0, .int .i64 0, .int .i64 0]), 3, 24) := by kernel_rfl
abbrev nodF (l : List Nod) : List Value := l.flatMap nodVs
theorem nodF_cons (x : Nod) (s : List Nod) : nodF (x :: s) = .int .i64 x.1 :: .int .i64 x.2.1 :: .int .i64 x.2.2 :: nodF s := rfl
theorem nodF_len (l : List Nod) : (nodF l).length = l.length * 3 := by
  induction l with
  | nil => rfl
  | cons c r ih => rw [nodF_cons, List.length_cons, List.length_cons, List.length_cons, ih, List.length_cons]; omega
theorem nodF_get (l : List Nod) : ∀ (k : Nat) (h : k < l.length), (nodF l)[k * 3]? = some (.int .i64 l[k].1) ∧ (nodF l)[k * 3 + 1]? = some (.int .i64 l[k].2.1) ∧ (nodF l)[k * 3 + 2]? = some (.int .i64 l[k].2.2) := by
  induction l with
  | nil => intro k h; cases h
  | cons c r ih =>
    intro k h
    rw [nodF_cons]
    match k, h with
    | 0, h => exact ⟨rfl, rfl, rfl⟩
    | k + 1, h =>
      have h' : k < r.length := by rw [List.length_cons] at h; omega
      have e0 : (k + 1) * 3 = k * 3 + 3 := by omega
      rw [e0]
      exact ih k h'
theorem nodF_set (l : List Nod) (c : Nod) : ∀ (k : Nat), k < l.length → (((nodF l).set (k * 3) (.int .i64 c.1)).set (k * 3 + 1) (.int .i64 c.2.1)).set (k * 3 + 2) (.int .i64 c.2.2) = nodF (l.set k c) := by
  induction l with
  | nil => intro k h; cases h
  | cons d r ih =>
    intro k h
    match k, h with
    | 0, h => rfl
    | k + 1, h =>
      have h' : k < r.length := by rw [List.length_cons] at h; omega
      have e0 : (k + 1) * 3 = k * 3 + 3 := by omega
      rw [e0, List.set_cons_succ, nodF_cons, nodF_cons, ← ih k h']
      rfl
theorem set_same {α : Type} (l : List α) (j : Nat) (v : α) (h : l[j]? = some v) : l.set j v = l := by
  obtain ⟨h1, h2⟩ := List.getElem?_eq_some_iff.1 h
  rw [← h2]; exact List.set_getElem_self h1
theorem nodF_set0 (l : List Nod) (k : Nat) (x : Int) (h : k < l.length) : (nodF l).set (k * 3) (.int .i64 x) = nodF (l.set k (x, (nodAt l k).2.1, (nodAt l k).2.2)) := by
  obtain ⟨g0, g1, g2⟩ := nodF_get l k h
  rw [nodAt_lt _ _ h, ← nodF_set l (x, l[k].2.1, l[k].2.2) k h]
  rw [set_same _ (k * 3 + 2) _ (by rw [List.getElem?_set, if_neg (by omega), List.getElem?_set, if_neg (by omega)]; exact g2), set_same _ (k * 3 + 1) _ (by rw [List.getElem?_set, if_neg (by omega)]; exact g1)]
theorem nodF_set1 (l : List Nod) (k : Nat) (x : Int) (h : k < l.length) : (nodF l).set (k * 3 + 1) (.int .i64 x) = nodF (l.set k ((nodAt l k).1, x, (nodAt l k).2.2)) := by
  obtain ⟨g0, g1, g2⟩ := nodF_get l k h
  rw [nodAt_lt _ _ h, ← nodF_set l (l[k].1, x, l[k].2.2) k h]
  rw [set_same (nodF l) (k * 3) _ g0, set_same _ (k * 3 + 2) _ (by rw [List.getElem?_set, if_neg (by omega)]; exact g2)]
theorem nodF_set2 (l : List Nod) (k : Nat) (x : Int) (h : k < l.length) : (nodF l).set (k * 3 + 2) (.int .i64 x) = nodF (l.set k ((nodAt l k).1, (nodAt l k).2.1, x)) := by
  obtain ⟨g0, g1, g2⟩ := nodF_get l k h
  rw [nodAt_lt _ _ h, ← nodF_set l (l[k].1, l[k].2.1, x) k h]
  rw [set_same (nodF l) (k * 3) _ g0, set_same (nodF l) (k * 3 + 1) _ g1]
/-- what a slice of places reads as, cell after cell -/
theorem IsN.flat {w : World} {b off cap : Nat} {l : List Nod} (h : IsN w (.slice (some ⟨b, off, none⟩) l.length cap) l) (j : Nat) (u : Value) (hu : (nodF l)[j]? = some u) : w.cell? ⟨b, off + j, none⟩ = some u := by
  obtain ⟨p, cap', e, h⟩ := h
  simp only [Value.slice.injEq] at e
  obtain ⟨rfl, -, rfl⟩ := e
  have hj : j < (nodF l).length := (List.getElem?_eq_some_iff.1 hu).1
  rw [nodF_len] at hj
  have hk : j / 3 < l.length := by omega
  obtain ⟨b', off', e, h0, h1, h2⟩ := h (j / 3) hk
  simp only [Option.some.injEq, Addr.mk.injEq, and_true] at e
  obtain ⟨rfl, rfl⟩ := e
  obtain ⟨g0, g1, g2⟩ := nodF_get l (j / 3) hk
  have hm : j = j / 3 * 3 ∨ j = j / 3 * 3 + 1 ∨ j = j / 3 * 3 + 2 := by omega
  rcases hm with hm | hm | hm
  · rw [hm, g0] at hu; rw [hm, ← hu]; exact h0
  · rw [hm, g1] at hu; rw [hm, ← hu, ← Nat.add_assoc]; exact h1
  · rw [hm, g2] at hu; rw [hm, ← hu, ← Nat.add_assoc]; exact h2
theorem nodF_one (l : List Nod) : ∀ u ∈ nodF l, u.oneCell' = true := by
  intro u hu
  obtain ⟨c, _, hc⟩ := List.mem_flatMap.1 hu
  simp only [nodVs, List.mem_cons, List.not_mem_nil, or_false] at hc
  rcases hc with rfl | rfl | rfl <;> rfl
/-- v is a slice of the call's own (from block B on, cells of type E) that holds these places -/
def OwnN (E : TypeId) (w : World) (B : Nat) (v : Value) (l : List Nod) : Prop := w.ownsRow B E 3 v l.length (nodF l)
theorem OwnN.reads {E : TypeId} {w : World} {B : Nat} {v : Value} {l : List Nod} (h : OwnN E w B v l) : IsN w v l := by
  have h' : w.ownsRow B E 3 v l.length (nodF l) := h
  rcases h.2 with ⟨hv, hn⟩ | ⟨g, cap, cur, hv, hB, hg, r⟩
  · obtain rfl := List.eq_nil_of_length_eq_zero hn
    exact ⟨none, 0, hv, fun j hj => by cases hj⟩
  · subst hv
    refine ⟨_, cap, rfl, fun j hj => ⟨g, 0, rfl, ?_⟩⟩
    obtain ⟨g0, g1, g2⟩ := nodF_get l j hj
    rw [Nat.zero_add]
    exact ⟨by rw [h'.cellAt _ (by omega), g0], by rw [h'.cellAt _ (by omega), g1], by rw [h'.cellAt _ (by omega), g2]⟩
theorem rdI1 {w : World} {b off cap : Nat} {l : List Int} (h : IsI w (.slice (some ⟨b, off, none⟩) l.length cap) l) (j : Nat) (u : Value) (hu : (l.map (Value.int .i64))[j]? = some u) : w.cell? ⟨b, off + j, none⟩ = some u := by
  obtain ⟨p, cap', e, h⟩ := h
  simp only [Value.slice.injEq] at e
  obtain ⟨rfl, -, rfl⟩ := e
  have hj : j < (l.map (Value.int .i64)).length := (List.getElem?_eq_some_iff.1 hu).1
  rw [List.length_map] at hj
  obtain ⟨b', off', e, h0⟩ := h j hj
  simp only [Option.some.injEq, Addr.mk.injEq, and_true] at e
  obtain ⟨rfl, rfl⟩ := e
  rw [List.getElem?_map, List.getElem?_eq_getElem hj] at hu
  rw [← hu]; exact h0

/-- a state whose rows the call owns, each in a block of its own: n places, k lists -/
structure OwnLS (w : World) (B n k gn gh gt cn ch ct : Nat) (st : LSt) : Prop where
  nods : w.ownsRow B 63 3 (.slice (some ⟨gn, 0, none⟩) n cn) n (nodF st.1)
  heads : w.ownsRow B 3 1 (.slice (some ⟨gh, 0, none⟩) k ch) k (st.2.1.map (Value.int .i64))
  tails : w.ownsRow B 3 1 (.slice (some ⟨gt, 0, none⟩) k ct) k (st.2.2.map (Value.int .i64))
  ne : gn ≠ gh ∧ gn ≠ gt ∧ gh ≠ gt
  len : st.1.length = n ∧ st.2.1.length = k ∧ st.2.2.length = k
section
variable {w w1 : World} {B n k gn gh gt cn ch ct : Nat} {st : LSt}
theorem OwnLS.call (h : OwnLS w B n k gn gh gt cn ch ct st) (hb : Below w.heap.size w w1) : OwnLS w1 B n k gn gh gt cn ch ct st := ⟨h.nods.call' hb, h.heads.call' hb, h.tails.call' hb, h.ne, h.len⟩
theorem own_mono {B' : Nat} {E : TypeId} {z m : Nat} {v : Value} {xs : List Value} (h : w.ownsRow B E z v m xs) (hB : B' ≤ B) : w.ownsRow B' E z v m xs := by
  obtain ⟨h1, h2⟩ := h
  refine ⟨h1, ?_⟩
  rcases h2 with h2 | ⟨g, cap, cur, hv, hb, r⟩
  · exact .inl h2
  · exact .inr ⟨g, cap, cur, hv, Nat.le_trans hB hb, r⟩
theorem OwnLS.mono {B' : Nat} (h : OwnLS w B n k gn gh gt cn ch ct st) (hB : B' ≤ B) : OwnLS w B' n k gn gh gt cn ch ct st := ⟨own_mono h.nods hB, own_mono h.heads hB, own_mono h.tails hB, h.ne, h.len⟩
theorem OwnLS.reads (h : OwnLS w B n k gn gh gt cn ch ct st) : IsLS w (.slice (some ⟨gn, 0, none⟩) n cn) (.slice (some ⟨gh, 0, none⟩) k ch) (.slice (some ⟨gt, 0, none⟩) k ct) st := by
  obtain ⟨l1, l2, l3⟩ := h.len
  refine ⟨OwnN.reads (E := 63) (B := B) ?_, OwnI.reads (B := B) ?_, OwnI.reads (B := B) ?_⟩
  · show World.ownsRow _ _ _ _ _ _ _; rw [l1]; exact h.nods
  · show World.ownsRow _ _ _ _ _ _ _; rw [l2]; exact h.heads
  · show World.ownsRow _ _ _ _ _ _ _; rw [l3]; exact h.tails
theorem own_lt {E : TypeId} {z m g cap : Nat} {xs : List Value} (h : w.ownsRow B E z (.slice (some ⟨g, 0, none⟩) m cap) m xs) : B ≤ g ∧ g < w.heap.size := World.ownsRow.lt h g rfl
theorem OwnLS.lt (h : OwnLS w B n k gn gh gt cn ch ct st) : (B ≤ gn ∧ gn < w.heap.size) ∧ (B ≤ gh ∧ gh < w.heap.size) ∧ (B ≤ gt ∧ gt < w.heap.size) := ⟨own_lt h.nods, own_lt h.heads, own_lt h.tails⟩
theorem own_keep {E : TypeId} {z m g cap b o : Nat} {u : Value} {xs : List Value} (h : w.ownsRow B E z (.slice (some ⟨g, 0, none⟩) m cap) m xs) (hne : g ≠ b) : (w.setCell ⟨b, o, none⟩ u).ownsRow B E z (.slice (some ⟨g, 0, none⟩) m cap) m xs := by
  obtain ⟨h1, h2⟩ := h
  refine ⟨h1, ?_⟩
  rcases h2 with h2 | ⟨g', cap', cur, hv, hB, hg, r⟩
  · exact .inl h2
  · cases hv
    refine .inr ⟨_, _, cur, rfl, hB, ?_, r⟩
    rw [← hg]
    exact Below.heap_setCell w _ u g hne
theorem OwnLS.setN0 (h : OwnLS w B n k gn gh gt cn ch ct st) {j : Nat} (hj : j < n) (x : Int) : OwnLS (w.setCell ⟨gn, j * 3, none⟩ (.int .i64 x)) B n k gn gh gt cn ch ct (st.1.set j (x, (nodAt st.1 j).2.1, (nodAt st.1 j).2.2), st.2.1, st.2.2) :=
  ⟨by rw [← nodF_set0 _ _ _ (by rw [h.len.1]; exact hj)]; exact (h.nods.stored _ _).1, own_keep h.heads (Ne.symm h.ne.1), own_keep h.tails (Ne.symm h.ne.2.1), h.ne, ⟨by simp [h.len.1], h.len.2⟩⟩
theorem OwnLS.setN1 (h : OwnLS w B n k gn gh gt cn ch ct st) {j : Nat} (hj : j < n) (x : Int) : OwnLS (w.setCell ⟨gn, j * 3 + 1, none⟩ (.int .i64 x)) B n k gn gh gt cn ch ct (st.1.set j ((nodAt st.1 j).1, x, (nodAt st.1 j).2.2), st.2.1, st.2.2) :=
  ⟨by rw [← nodF_set1 _ _ _ (by rw [h.len.1]; exact hj)]; exact (h.nods.stored _ _).1, own_keep h.heads (Ne.symm h.ne.1), own_keep h.tails (Ne.symm h.ne.2.1), h.ne, ⟨by simp [h.len.1], h.len.2⟩⟩
theorem OwnLS.setN2 (h : OwnLS w B n k gn gh gt cn ch ct st) {j : Nat} (hj : j < n) (x : Int) : OwnLS (w.setCell ⟨gn, j * 3 + 2, none⟩ (.int .i64 x)) B n k gn gh gt cn ch ct (st.1.set j ((nodAt st.1 j).1, (nodAt st.1 j).2.1, x), st.2.1, st.2.2) :=
  ⟨by rw [← nodF_set2 _ _ _ (by rw [h.len.1]; exact hj)]; exact (h.nods.stored _ _).1, own_keep h.heads (Ne.symm h.ne.1), own_keep h.tails (Ne.symm h.ne.2.1), h.ne, ⟨by simp [h.len.1], h.len.2⟩⟩
theorem OwnLS.setN (h : OwnLS w B n k gn gh gt cn ch ct st) {j : Nat} (hj : j < n) (c : Nod) : OwnLS (((w.setCell ⟨gn, j * 3, none⟩ (.int .i64 c.1)).setCell ⟨gn, j * 3 + 1, none⟩ (.int .i64 c.2.1)).setCell ⟨gn, j * 3 + 2, none⟩ (.int .i64 c.2.2)) B n k gn gh gt cn ch ct (st.1.set j c, st.2.1, st.2.2) :=
  ⟨by rw [← nodF_set _ _ _ (by rw [h.len.1]; exact hj)]; exact ((((h.nods.stored _ _).1).stored _ _).1.stored _ _).1, own_keep (own_keep (own_keep h.heads (Ne.symm h.ne.1)) (Ne.symm h.ne.1)) (Ne.symm h.ne.1), own_keep (own_keep (own_keep h.tails (Ne.symm h.ne.2.1)) (Ne.symm h.ne.2.1)) (Ne.symm h.ne.2.1), h.ne, ⟨by simp [h.len.1], h.len.2⟩⟩
theorem OwnLS.setH (h : OwnLS w B n k gn gh gt cn ch ct st) {j : Nat} (x : Int) : OwnLS (w.setCell ⟨gh, j, none⟩ (.int .i64 x)) B n k gn gh gt cn ch ct (st.1, st.2.1.set j x, st.2.2) :=
  ⟨own_keep h.nods h.ne.1, by rw [List.map_set]; exact (h.heads.stored _ _).1, own_keep h.tails (Ne.symm h.ne.2.2), h.ne, ⟨h.len.1, by simp [h.len.2.1], h.len.2.2⟩⟩
theorem OwnLS.setT (h : OwnLS w B n k gn gh gt cn ch ct st) {j : Nat} (x : Int) : OwnLS (w.setCell ⟨gt, j, none⟩ (.int .i64 x)) B n k gn gh gt cn ch ct (st.1, st.2.1, st.2.2.set j x) :=
  ⟨own_keep h.nods h.ne.2.1, own_keep h.heads h.ne.2.2, by rw [List.map_set]; exact (h.tails.stored _ _).1, h.ne, ⟨h.len.1, h.len.2.1, by simp [h.len.2.2]⟩⟩
/-- the cells of a place, and that they may be written -/
theorem OwnLS.nod (h : OwnLS w B n k gn gh gt cn ch ct st) {j : Nat} (hj : j < n) : w.cell? ⟨gn, j * 3, none⟩ = some (.int .i64 (nodAt st.1 j).1) ∧ w.cell? ⟨gn, j * 3 + 1, none⟩ = some (.int .i64 (nodAt st.1 j).2.1) ∧ w.cell? ⟨gn, j * 3 + 2, none⟩ = some (.int .i64 (nodAt st.1 j).2.2) := by
  obtain ⟨g0, g1, g2⟩ := nodF_get st.1 j (by rw [h.len.1]; exact hj)
  rw [nodAt_lt _ _ (by rw [h.len.1]; exact hj)]
  exact ⟨by rw [h.nods.cellAt _ (by omega), g0], by rw [h.nods.cellAt _ (by omega), g1], by rw [h.nods.cellAt _ (by omega), g2]⟩
theorem OwnLS.hd (h : OwnLS w B n k gn gh gt cn ch ct st) {j : Nat} (hj : j < k) : w.cell? ⟨gh, j, none⟩ = some (.int .i64 (st.2.1.getD j (-1))) := by
  rw [h.heads.cellAt _ (by omega)]
  have : j < st.2.1.length := by rw [h.len.2.1]; exact hj
  simp [List.getD, this]
theorem OwnLS.tl (h : OwnLS w B n k gn gh gt cn ch ct st) {j : Nat} (hj : j < k) : w.cell? ⟨gt, j, none⟩ = some (.int .i64 (st.2.2.getD j (-1))) := by
  rw [h.tails.cellAt _ (by omega)]
  have : j < st.2.2.length := by rw [h.len.2.2]; exact hj
  simp [List.getD, this]
end

set_option maxRecDepth 100000 in
set_option maxHeartbeats 1000000 in
theorem cloneI_any (v : Value) (l : List Int) (w : World) (hv : IsI w v l) (hne : 0 < l.length) (hl : l.length ≤ 1048576) :
    Calls Try.prog 60 #[v] w fun e w' => ∃ g cap, e = .returned (.slice (some ⟨g, 0, none⟩) l.length cap) ∧ w'.ownsRow w.heap.size 3 1 (.slice (some ⟨g, 0, none⟩) l.length cap) l.length (l.map (Value.int .i64)) ∧ Below w.heap.size w w' := by
  obtain ⟨i0, hi, hj0, hj1, hj2⟩ := info_parts info_int
  have Hv := Lib.hid hv
  obtain ⟨p, cap, rfl, hp⟩ := hv
  have hnil : ∀ W : World, (binOp .eql 23 (.slice p l.length cap) (.slice none 0 0)).run Try.prog W = .ok (.bool p.isNone) W := fun W => run_eql_slice_nil W _ _ _ _ _ Try.underlying23
  obtain ⟨b, off, rfl, -⟩ := hp 0 hne
  clear hp
  go_enter Try.func60, Try.ntmps60
  go_wp2_with (at_builtin; refine wpList_append_own _ rfl _ _ 23 rfl w.heap.size 3 i0 (.int .i64 0) 1 8 Try.underlying23 hi hj0 hj1 hj2 rfl (by decide) _ 0 [] rfl (World.ownsRow_lit w #[] 0 (Nat.le_refl _) (by decide) rfl) ⟨b, off, none⟩ l.length cap (l.map (Value.int .i64)) rfl (by simp) (fun j u hu => by rw [Addr.add_lit]; exact rdI1 (Hv.out.call (by (repeat (first | (with_reducible exact Below.refl _ _) | ((with_reducible refine below_alloc ?_ ?_ _); · (first | omega | (simp; done) | (simp; omega))) | ((with_reducible refine below_setCell ?_ ?_ _); · (first | omega | (simp; done) | (simp; omega))) | (with_reducible refine Below.drew ?_) | (with_reducible refine below_drewN ?_ _) | ((with_reducible refine below_call (by assumption) ?_ ?_); · (first | omega | (simp; done) | (simp; omega))))))) j u hu) (by intro u hu; obtain ⟨_, _, rfl⟩ := List.mem_map.1 hu; rfl) (by unfold maxLen; omega) (by omega) (by simp) ?_; intro v' w3 hown' hgr _; have hb3 : Below w.heap.size w w3 := ((Below.refl _ _).alloc (Nat.le_refl _) _).grown hgr (by simp) (fun q hq => by cases hq; exact Nat.le_refl _); have hown3 : w3.ownsRow w.heap.size 3 1 v' l.length (l.map (Value.int .i64)) := (by simpa only [Nat.zero_add, List.nil_append] using hown'); clear hown' hgr)
  go_ret
  rcases hown3.2 with ⟨hv, hn⟩ | ⟨g, cap', cur, hv, hBg, hg, hr⟩
  · omega
  subst hv
  exact ⟨g, cap', rfl, hown3, hb3⟩

set_option maxRecDepth 100000 in
set_option maxHeartbeats 1000000 in
theorem cloneN_any (v : Value) (l : List Nod) (w : World) (hv : IsN w v l) (hne : 0 < l.length) (hl : l.length ≤ 1048576) :
    Calls Try.prog 59 #[v] w fun e w' => ∃ g cap, e = .returned (.slice (some ⟨g, 0, none⟩) l.length cap) ∧ w'.ownsRow w.heap.size 63 3 (.slice (some ⟨g, 0, none⟩) l.length cap) l.length (nodF l) ∧ Below w.heap.size w w' := by
  obtain ⟨i0, hi, hj0, hj1, hj2⟩ := info_parts info_nod
  have Hv := Lib.hid hv
  obtain ⟨p, cap, rfl, hp⟩ := hv
  have hnil : ∀ W : World, (binOp .eql 28 (.slice p l.length cap) (.slice none 0 0)).run Try.prog W = .ok (.bool p.isNone) W := fun W => run_eql_slice_nil W _ _ _ _ _ Try.underlying28
  obtain ⟨b, off, rfl, -⟩ := hp 0 hne
  clear hp
  go_enter Try.func59, Try.ntmps59
  go_wp2_with (at_builtin; refine wpList_append_own _ rfl _ _ 28 rfl w.heap.size 63 i0 (.agg #[.int .i64 0, .int .i64 0, .int .i64 0]) 3 24 Try.underlying28 hi hj0 hj1 hj2 rfl (by decide) _ 0 [] rfl (World.ownsRow_lit w #[] 0 (Nat.le_refl _) (by decide) rfl) ⟨b, off, none⟩ l.length cap (nodF l) rfl (nodF_len l) (fun j u hu => by rw [Addr.add_lit]; exact IsN.flat (Hv.out.call (by (repeat (first | (with_reducible exact Below.refl _ _) | ((with_reducible refine below_alloc ?_ ?_ _); · (first | omega | (simp; done) | (simp; omega))) | ((with_reducible refine below_setCell ?_ ?_ _); · (first | omega | (simp; done) | (simp; omega))) | (with_reducible refine Below.drew ?_) | (with_reducible refine below_drewN ?_ _) | ((with_reducible refine below_call (by assumption) ?_ ?_); · (first | omega | (simp; done) | (simp; omega))))))) j u hu) (nodF_one l) (by unfold maxLen; omega) (by omega) (by simp) ?_; intro v' w3 hown' hgr _; have hb3 : Below w.heap.size w w3 := ((Below.refl _ _).alloc (Nat.le_refl _) _).grown hgr (by simp) (fun q hq => by cases hq; exact Nat.le_refl _); have hown3 : w3.ownsRow w.heap.size 63 3 v' l.length (nodF l) := (by simpa only [Nat.zero_add, List.nil_append] using hown'); clear hown' hgr)
  go_ret
  rcases hown3.2 with ⟨hv, hn⟩ | ⟨g, cap', cur, hv, hBg, hg, hr⟩
  · omega
  subst hv
  exact ⟨g, cap', rfl, hown3, hb3⟩

set_option maxRecDepth 100000 in
set_option maxHeartbeats 2000000 in
theorem copied_any (vn vh vt : Value) (st : LSt) (w : World) (hv : IsLS w vn vh vt st) (h1 : 1 ≤ st.1.length ∧ st.1.length ≤ 64) (h2 : 1 ≤ st.2.1.length ∧ st.2.1.length ≤ 8) (h3 : st.2.2.length = st.2.1.length) :
    Calls Try.prog 36 #[.agg #[vn, vh, vt]] w fun e w' => ∃ gn gh gt cn ch ct, e = .returned (.agg #[.slice (some ⟨gn, 0, none⟩) st.1.length cn, .slice (some ⟨gh, 0, none⟩) st.2.1.length ch, .slice (some ⟨gt, 0, none⟩) st.2.1.length ct]) ∧
      OwnLS w' w.heap.size st.1.length st.2.1.length gn gh gt cn ch ct st ∧ Below w.heap.size w w' := by
  have HV := Lib.hid hv
  have c1 := fun W (h : Below w.heap.size w W) => cloneN_any vn st.1 W (HV.out.1.call h) (by omega) (by omega)
  have c2 := fun W (h : Below w.heap.size w W) => cloneI_any vh st.2.1 W (HV.out.2.1.call h) (by omega) (by omega)
  have c3 := fun W (h : Below w.heap.size w W) => cloneI_any vt st.2.2 W (HV.out.2.2.call h) (by omega) (by omega)
  rw [h3] at c3
  have H3 := Lib.hid h3
  obtain ⟨l, hd, tl⟩ := st
  obtain ⟨⟨pn, cn, rfl, -⟩, ⟨ph, ch, rfl, -⟩, ⟨pt, ct, rfl, -⟩⟩ := hv
  replace h1 : 1 ≤ l.length ∧ l.length ≤ 64 := h1
  replace h2 : 1 ≤ hd.length ∧ hd.length ≤ 8 := h2
  have C1 := Lib.hid c1
  have C2 := Lib.hid c2
  have C3 := Lib.hid c3
  clear h3 c1 c2 c3
  go_enter Try.func36, Try.ntmps36
  go_wp2
  refine gen_world (F := fun wt => (wt.cell? ⟨w.heap.size, 0, none⟩ = some (.slice pn l.length cn) ∧ wt.cell? ⟨w.heap.size, 1, none⟩ = some (.slice ph hd.length ch) ∧ wt.cell? ⟨w.heap.size, 2, none⟩ = some (.slice pt tl.length ct)) ∧
    (wt.cell? ⟨w.heap.size + 1, 0, none⟩ = some (.slice none 0 0) ∧ wt.cell? ⟨w.heap.size + 1, 1, none⟩ = some (.slice none 0 0) ∧ wt.cell? ⟨w.heap.size + 1, 2, none⟩ = some (.slice none 0 0)) ∧
    (wt.frozen? ⟨w.heap.size + 1, 0, none⟩ = false ∧ wt.frozen? ⟨w.heap.size + 1, 1, none⟩ = false ∧ wt.frozen? ⟨w.heap.size + 1, 2, none⟩ = false) ∧ Below w.heap.size w wt ∧ w.heap.size + 1 < wt.heap.size) ⟨⟨by simp [go_sem], by simp [go_sem], by simp [go_sem]⟩, ⟨by simp [go_sem], by simp [go_sem], by simp [go_sem]⟩, ⟨by simp [go_sem], by simp [go_sem], by simp [go_sem]⟩, by (repeat (first | (with_reducible exact Below.refl _ _) | ((with_reducible refine below_alloc ?_ ?_ _); · (first | omega | (simp; done) | (simp; omega))) | ((with_reducible refine below_setCell ?_ ?_ _); · (first | omega | (simp; done) | (simp; omega))) | (with_reducible refine Below.drew ?_) | (with_reducible refine below_drewN ?_ _) | ((with_reducible refine below_call (by assumption) ?_ ?_); · (first | omega | (simp; done) | (simp; omega))))), by simp⟩ (fun W hF => ?_)
  obtain ⟨⟨e0, e1, e2⟩, ⟨r0, r1, r2⟩, ⟨z0, z1, z2⟩, hB, hz⟩ := hF
  have hout : ∀ w', Fr W w' → (w'.cell? ⟨w.heap.size, 0, none⟩ = some (.slice pn l.length cn) ∧ w'.cell? ⟨w.heap.size, 1, none⟩ = some (.slice ph hd.length ch) ∧ w'.cell? ⟨w.heap.size, 2, none⟩ = some (.slice pt tl.length ct)) ∧ (w'.cell? ⟨w.heap.size + 1, 0, none⟩ = some (.slice none 0 0) ∧ w'.cell? ⟨w.heap.size + 1, 1, none⟩ = some (.slice none 0 0) ∧ w'.cell? ⟨w.heap.size + 1, 2, none⟩ = some (.slice none 0 0)) ∧ (w'.frozen? ⟨w.heap.size + 1, 0, none⟩ = false ∧ w'.frozen? ⟨w.heap.size + 1, 1, none⟩ = false ∧ w'.frozen? ⟨w.heap.size + 1, 2, none⟩ = false) :=
    fun w' h => ⟨⟨Fr.at h e0, Fr.at h e1, Fr.at h e2⟩, ⟨Fr.at h r0, Fr.at h r1, Fr.at h r2⟩, ⟨(Below.frozen h (p := ⟨w.heap.size + 1, 0, none⟩) hz).trans z0, (Below.frozen h (p := ⟨w.heap.size + 1, 1, none⟩) hz).trans z1, (Below.frozen h (p := ⟨w.heap.size + 1, 2, none⟩) hz).trans z2⟩⟩
  have F0 : Fr W W.drew := Below.drew (Below.refl _ _)
  clear e0 e1 e2 r0 r1 r2 z0 z1 z2
  refine wp_region_held_drew (S := fun w' => w'.cell? ⟨w.heap.size, 0, none⟩ = some (.slice pn l.length cn) ∧ w'.cell? ⟨w.heap.size, 1, none⟩ = some (.slice ph hd.length ch) ∧ w'.cell? ⟨w.heap.size, 2, none⟩ = some (.slice pt tl.length ct)) (by kernel_rfl) ((hout _ (by assumption)).1) (fun hHeld => ?_)
  (refine wpAnyH_take (i := 0) (v := ?_) rfl (by kernel_rfl) (by kernel_rfl) (by kernel_rfl) (fun _ _ _ h => h) (Or.inl ⟨by rfl, ?_⟩) (by assumption) ?_; rotate_left 1; (focus (intro wz hz; (try dsimp only at hz); (try simp only [List.getElem_toArray, List.getElem_cons_succ, List.getElem_cons_zero]); go_simp; try (with_reducible rfl); done)))
  try simp only [Act.put, List.getElem_toArray, List.getElem_cons_succ, List.getElem_cons_zero, List.setIfInBounds_toArray, List.set_cons_zero, List.set_cons_succ]
  (refine wpAnyH_take (i := 3) (v := ?_) rfl (by kernel_rfl) (by kernel_rfl) (by kernel_rfl) (fun _ _ _ h => h) (Or.inl ⟨by rfl, ?_⟩) (by assumption) ?_; rotate_left 1; (focus (intro wz hz; (try dsimp only at hz); (try simp only [List.getElem_toArray, List.getElem_cons_succ, List.getElem_cons_zero]); go_simp; try (with_reducible rfl); done)))
  try simp only [Act.put, List.getElem_toArray, List.getElem_cons_succ, List.getElem_cons_zero, List.setIfInBounds_toArray, List.set_cons_zero, List.set_cons_succ]
  (refine wpAnyH_take (i := 6) (v := ?_) rfl (by kernel_rfl) (by kernel_rfl) (by kernel_rfl) (fun _ _ _ h => h) (Or.inl ⟨by rfl, ?_⟩) (by assumption) ?_; rotate_left 1; (focus (intro wz hz; (try dsimp only at hz); (try simp only [List.getElem_toArray, List.getElem_cons_succ, List.getElem_cons_zero]); go_simp; try (with_reducible rfl); done)))
  try simp only [Act.put, List.getElem_toArray, List.getElem_cons_succ, List.getElem_cons_zero, List.setIfInBounds_toArray, List.set_cons_zero, List.set_cons_succ]
  (refine wpAnyH_take (i := 1) (v := ?_) rfl (by kernel_rfl) (by kernel_rfl) (by kernel_rfl) (fun _ _ _ h => h) (Or.inl ⟨by rfl, ?_⟩) (by assumption) ?_; rotate_left 1; (focus (intro wz hz; (try dsimp only at hz); (try simp only [List.getElem_toArray, List.getElem_cons_succ, List.getElem_cons_zero]); go_simp; try (with_reducible rfl); done)))
  try simp only [Act.put, List.getElem_toArray, List.getElem_cons_succ, List.getElem_cons_zero, List.setIfInBounds_toArray, List.set_cons_zero, List.set_cons_succ]
  (refine wpAnyH_take (i := 4) (v := ?_) rfl (by kernel_rfl) (by kernel_rfl) (by kernel_rfl) (fun _ _ _ h => h) (Or.inl ⟨by rfl, ?_⟩) (by assumption) ?_; rotate_left 1; (focus (intro wz hz; (try dsimp only at hz); (try simp only [List.getElem_toArray, List.getElem_cons_succ, List.getElem_cons_zero]); go_simp; try (with_reducible rfl); done)))
  try simp only [Act.put, List.getElem_toArray, List.getElem_cons_succ, List.getElem_cons_zero, List.setIfInBounds_toArray, List.set_cons_zero, List.set_cons_succ]
  (refine wpAnyH_take (i := 7) (v := ?_) rfl (by kernel_rfl) (by kernel_rfl) (by kernel_rfl) (fun _ _ _ h => h) (Or.inl ⟨by rfl, ?_⟩) (by assumption) ?_; rotate_left 1; (focus (intro wz hz; (try dsimp only at hz); (try simp only [List.getElem_toArray, List.getElem_cons_succ, List.getElem_cons_zero]); go_simp; try (with_reducible rfl); done)))
  try simp only [Act.put, List.getElem_toArray, List.getElem_cons_succ, List.getElem_cons_zero, List.setIfInBounds_toArray, List.set_cons_zero, List.set_cons_succ]
  (refine wpAnyH_ready (rs := [2]) (by kernel_rfl) (by simp) ?_; refine AllReadyH.cons rfl (fun K hK => ?_) AllReadyH.nil; (try simp only [List.getElem_toArray, List.getElem_cons_succ, List.getElem_cons_zero]); go_simp; go_at_call 59; refine (C1.out _ (Fr.fin hB (by assumption))).mono ?_; rintro e wn2 ⟨g0, k0, rfl, hO2, hbn2⟩; have hTn2 := Fr.call (by assumption) hbn2; (try (go_wp2_with fail)); refine hK.out _ _ ((hout _ (by assumption)).1) (fun hHeld => ?_); clear hK K)
  try simp only [Act.put, List.getElem_toArray, List.getElem_cons_succ, List.getElem_cons_zero, List.setIfInBounds_toArray, List.set_cons_zero, List.set_cons_succ]
  (refine wpAnyH_ready (rs := [5]) (by kernel_rfl) (by simp) ?_; refine AllReadyH.cons rfl (fun K hK => ?_) AllReadyH.nil; (try simp only [List.getElem_toArray, List.getElem_cons_succ, List.getElem_cons_zero]); go_simp; go_at_call 60; refine (C2.out _ (Fr.fin hB (by assumption))).mono ?_; rintro e wn5 ⟨g1, k1, rfl, hO5, hbn5⟩; have hTn5 := Fr.call (by assumption) hbn5; (try (go_wp2_with fail)); refine hK.out _ _ ((hout _ (by assumption)).1) (fun hHeld => ?_); clear hK K)
  try simp only [Act.put, List.getElem_toArray, List.getElem_cons_succ, List.getElem_cons_zero, List.setIfInBounds_toArray, List.set_cons_zero, List.set_cons_succ]
  (refine wpAnyH_ready (rs := [8]) (by kernel_rfl) (by simp) ?_; refine AllReadyH.cons rfl (fun K hK => ?_) AllReadyH.nil; (try simp only [List.getElem_toArray, List.getElem_cons_succ, List.getElem_cons_zero]); go_simp; go_at_call 60; refine (C3.out _ (Fr.fin hB (by assumption))).mono ?_; rintro e wn8 ⟨g2, k2, rfl, hO8, hbn8⟩; have hTn8 := Fr.call (by assumption) hbn8; (try (go_wp2_with fail)); refine hK.out _ _ ((hout _ (by assumption)).1) (fun hHeld => ?_); clear hK K)
  try simp only [Act.put, List.getElem_toArray, List.getElem_cons_succ, List.getElem_cons_zero, List.setIfInBounds_toArray, List.set_cons_zero, List.set_cons_succ]
  (refine wpAnyH_take (i := 9) (v := ?_) rfl (by kernel_rfl) (by kernel_rfl) (by kernel_rfl) (fun _ _ _ h => h) (Or.inl ⟨by rfl, ?_⟩) (by assumption) ?_; rotate_left 1; (focus (intro wz hz; (try dsimp only at hz); (try simp only [List.getElem_toArray, List.getElem_cons_succ, List.getElem_cons_zero]); go_simp; try (with_reducible rfl); done)))
  try simp only [Act.put, List.getElem_toArray, List.getElem_cons_succ, List.getElem_cons_zero, List.setIfInBounds_toArray, List.set_cons_zero, List.set_cons_succ]
  (refine wpAnyH_ready (rs := [10]) (by kernel_rfl) (by simp) ?_; refine AllReadyH.cons rfl (fun K hK => ?_) AllReadyH.nil; (try simp only [List.getElem_toArray, List.getElem_cons_succ, List.getElem_cons_zero]); obtain ⟨-, ⟨r0, r1, r2⟩, ⟨z0, z1, z2⟩⟩ := hout _ hTn8; go_simp; refine hK.out _ _ (by obtain ⟨⟨e0, e1, e2⟩, -⟩ := hout _ hTn8; exact ⟨by simp [go_sem, e0], by simp [go_sem, e1], by simp [go_sem, e2]⟩) (fun hHeld => ?_); clear hK K)
  try simp only [Act.put, List.getElem_toArray, List.getElem_cons_succ, List.getElem_cons_zero, List.setIfInBounds_toArray, List.set_cons_zero, List.set_cons_succ]
  refine wpAnyH_done (by kernel_rfl) ?_ _
  have hs2 := hbn2.size
  have hs5 := hbn5.size
  have hs8 := hbn8.size
  simp only [World.size_drew] at hs2
  have l2 := own_lt hO2
  have l5 := own_lt hO5
  have l8 := own_lt hO8
  simp only [World.size_drew] at l2
  have hB2 : Below w.heap.size w wn8 := Fr.fin hB hTn8
  go_wp2
  refine bodyPost_ret (v := .agg #[.slice (some ⟨g0, 0, none⟩) l.length k0, .slice (some ⟨g1, 0, none⟩) hd.length k1, .slice (some ⟨g2, 0, none⟩) hd.length k2]) (by simp [results, Try.results36, go_sem, r0, r1, r2]) rfl ⟨g0, g1, g2, k0, k1, k2, rfl, ⟨?_, ?_, ?_, ⟨by omega, by omega, by omega⟩, rfl, rfl, H3.out⟩, ?_⟩
  · exact own_keep (own_keep (own_keep (own_mono (B' := w.heap.size) ((hO2.call' hbn5).call' hbn8) (by simp only [World.size_drew]; omega)) (by omega)) (by omega)) (by omega)
  · exact own_keep (own_keep (own_keep (own_mono (B' := w.heap.size) (hO5.call' hbn8) (by omega)) (by omega)) (by omega)) (by omega)
  · exact own_keep (own_keep (own_keep (own_mono (B' := w.heap.size) hO8 (by omega)) (by omega)) (by omega)) (by omega)
  · (repeat (first | (with_reducible exact Below.refl _ _) | ((with_reducible refine below_alloc ?_ ?_ _); · (first | omega | (simp; done) | (simp; omega))) | ((with_reducible refine below_setCell ?_ ?_ _); · (first | omega | (simp; done) | (simp; omega))) | (with_reducible refine Below.drew ?_) | (with_reducible refine below_drewN ?_ _) | ((with_reducible refine below_call (by assumption) ?_ ?_); · (first | omega | (simp; done) | (simp; omega)))))
end Go.Proofs.Ytkcenadenmkgnaa
