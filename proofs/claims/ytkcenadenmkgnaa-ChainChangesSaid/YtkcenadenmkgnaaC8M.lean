/- Plain mathematics of lists by links: one list of 64 places; what lies in what. -/
import Derived.Test.YtkcenadenmkgnaaC7
namespace Go.Proofs.Ytkcenadenmkgnaa
open Go.RowKit
set_option linter.unusedVariables false
set_option linter.unusedSimpArgs false

theorem ask_rep {st : LSt} {L : List (List Int)} (h : Rep st L) (hn : 1 ≤ st.1.length ∧ st.1.length ≤ 64) (hk : 1 ≤ L.length ∧ L.length ≤ 8) {i : Nat} (hi : i < L.length) : askB st i = true := by
  unfold askB
  rw [decide_eq_true (chk_rep h hn hk), Bool.true_and]
  unfold isB
  rw [inB_iff, (rep_len h).1]; omega
theorem walk_rep {st : LSt} {L : List (List Int)} (h : Rep st L) (hn : 1 ≤ st.1.length ∧ st.1.length ≤ 64) (hk : 1 ≤ L.length ∧ L.length ≤ 8) {i : Nat} (hi : i < L.length) : walkL st i = L[i] := by
  rw [walkL_yes (ask_rep h hn hk hi), Int.toNat_natCast, rep_walk h hi]
theorem front_rep {st : LSt} {L : List (List Int)} (h : Rep st L) (hn : 1 ≤ st.1.length ∧ st.1.length ≤ 64) (hk : 1 ≤ L.length ∧ L.length ≤ 8) {i : Nat} (hi : i < L.length) : frontL st i = hdI (-1) L[i] := by
  unfold frontL
  rw [walk_rep h hn hk hi]
  cases L[i] <;> rfl
theorem push_rep {st : LSt} {L : List (List Int)} (h : Rep st L) (hn : 1 ≤ st.1.length ∧ st.1.length ≤ 64) (hk : 1 ≤ L.length ∧ L.length ≤ 8) {i x : Nat} (hi : i < L.length) (hx : x < st.1.length) :
    ((∃ j, ∃ (hj : j < L.length), (x : Int) ∈ L[j]) → pushE st i x = 13 ∧ pushS st i x = st) ∧
    ((∀ j (hj : j < L.length), (x : Int) ∉ L[j]) → pushE st i x = 0 ∧ pushS st i x = putP st i x ∧ Rep (pushS st i x) (L.set i (L[i] ++ [(x : Int)]))) := by
  have hc := chk_rep h hn hk
  have hb : isB st i = true := by unfold isB; rw [inB_iff, (rep_len h).1]; omega
  have hxb : inB x 0 ((st.1.length : Int) - 1) = true := by rw [inB_iff]; omega
  have hE : pushE st i x = if (nodAt st.1 x).1 = -1 then 0 else 13 := by
    unfold pushE
    rw [if_neg (by simp [hc]), if_neg (by simp [hb]), if_neg (by simp [hxb]), Int.toNat_natCast]
  constructor
  · rintro ⟨j, hj, hm⟩
    have := (rep_mem h hj hm).2.1
    have e : pushE st i x = 13 := by rw [hE, if_neg (by omega)]
    exact ⟨e, by unfold pushS; rw [e]; rfl⟩
  · intro hno
    have hf := h.free x hx hno
    have e : pushE st i x = 0 := by rw [hE, hf]; rfl
    have e2 : pushS st i x = putP st i x := by unfold pushS; rw [if_pos e, Int.toNat_natCast, Int.toNat_natCast]
    exact ⟨e, e2, by rw [e2]; exact rep_put h hi hx hno⟩
theorem turn_rep {st : LSt} {L : List (List Int)} (h : Rep st L) (hn : 1 ≤ st.1.length ∧ st.1.length ≤ 64) (hk : 1 ≤ L.length ∧ L.length ≤ 8) {i : Nat} (hi : i < L.length) :
    (turnS st i).1.length = st.1.length ∧ (L[i] = [] → turnS st i = st) ∧ ∀ a r, L[i] = a :: r → Rep (turnS st i) (L.set i (r ++ [a])) := by
  have hf := front_rep h hn hk hi
  refine ⟨?_, fun e => ?_, fun a r e => ?_⟩
  · unfold turnS
    split
    · rfl
    · rw [(putP_len _ _ _).1, (outP_len _ _).1]
  · rw [e] at hf
    unfold turnS
    rw [hf]; rfl
  · rw [e] at hf
    replace hf : frontL st i = a := hf
    have ha := h.bd hi (a := a) (by rw [e]; simp)
    have hm := rep_move h hi hi (A := []) (B := r) (a := a) (by rw [e]; rfl)
    have e2 : turnS st i = splF i st a := by
      unfold turnS splF
      rw [hf, if_neg (by omega), Int.toNat_natCast]
    rw [e2]
    rw [List.nil_append, List.set_set, List.getElem_set_self] at hm
    exact hm
theorem push_len (st : LSt) (i a : Int) : (pushS st i a).1.length = st.1.length ∧ (pushS st i a).2.1.length = st.2.1.length ∧ (pushS st i a).2.2.length = st.2.2.length := by
  unfold pushS
  split
  · exact putP_len _ _ _
  · exact ⟨rfl, rfl, rfl⟩
theorem new_rep (n k : Nat) (hn : 1 ≤ n ∧ n ≤ 64) (hk : 1 ≤ k ∧ k ≤ 8) : newE n k = 0 ∧ newR n k = newS n k ∧ Rep (newS n k) (List.replicate k []) ∧ (newS n k).1.length = n := by
  have e : newE n k = 0 := by
    unfold newE
    rw [if_pos]
    rw [Bool.and_eq_true, inB_iff, inB_iff]; omega
  exact ⟨e, by unfold newR; rw [if_pos e]; rfl, rep_newS n k, by simp [newS]⟩
theorem turn_len (st : LSt) (i : Int) : (turnS st i).1.length = st.1.length ∧ (turnS st i).2.1.length = st.2.1.length ∧ (turnS st i).2.2.length = st.2.2.length := by
  unfold turnS
  split
  · exact ⟨rfl, rfl, rfl⟩
  · obtain ⟨a, b, c⟩ := putP_len (outP st (frontL st i).toNat) i.toNat (frontL st i).toNat
    obtain ⟨d, e, f⟩ := outP_len st (frontL st i).toNat
    exact ⟨a.trans d, b.trans e, c.trans f⟩
/-- nothing of a state that is there lies beyond the memory -/
theorem IsLS.off_new {w : World} {vn vh vt : Value} {st : LSt} {g : Nat} (h : IsLS w vn vh vt st) (h1 : 0 < st.1.length) (h2 : 0 < st.2.1.length) (h3 : 0 < st.2.2.length) (hg : w.heap.size ≤ g) : Off3 g vn vh vt := by
  obtain ⟨⟨pn, cn, rfl, hn⟩, ⟨ph, ch, rfl, hh⟩, ⟨pt, ct, rfl, ht⟩⟩ := h
  obtain ⟨b, o, rfl, c0, -, -⟩ := hn 0 h1
  obtain ⟨b2, o2, rfl, c2⟩ := hh 0 h2
  obtain ⟨b3, o3, rfl, c3⟩ := ht 0 h3
  have l1 := World.block_lt_of_cell? _ _ c0
  have l2 := World.block_lt_of_cell? _ _ c2
  have l3 := World.block_lt_of_cell? _ _ c3
  simp only at l1 l2 l3
  exact ⟨fun b o s n c e => by cases e; omega, fun b o s n c e => by cases e; omega, fun b o s n c e => by cases e; omega⟩
theorem off_grown {w w' : World} {vn vh vt : Value} {st : LSt} {row : Option Nat} (h : IsLS w vn vh vt st) (hg : w.grownBy w' row) (ho : ∀ q, row = some q → Off3 q vn vh vt) : IsLS w' vn vh vt st := by
  obtain ⟨⟨pn, cn, rfl, hn⟩, ⟨ph, ch, rfl, hh⟩, ⟨pt, ct, rfl, ht⟩⟩ := h
  have go : ∀ (b o : Nat) (u : Value), (∀ q, row = some q → b ≠ q) → w.cell? ⟨b, o, none⟩ = some u → w'.cell? ⟨b, o, none⟩ = some u := fun b o u hne hu =>
    (World.cell?_of_block (w := w) (a := ⟨b, o, none⟩) (hg.block b (World.block_lt_of_cell? _ _ hu) (fun e => hne b e.symm rfl))).trans hu
  refine ⟨⟨pn, cn, rfl, fun j hj => ?_⟩, ⟨ph, ch, rfl, fun j hj => ?_⟩, ⟨pt, ct, rfl, fun j hj => ?_⟩⟩
  · obtain ⟨b, o, rfl, c0, c1, c2⟩ := hn j hj
    have hb := fun q hq => (ho q hq).1 b o none _ _ rfl
    exact ⟨b, o, rfl, go _ _ _ hb c0, go _ _ _ hb c1, go _ _ _ hb c2⟩
  · obtain ⟨b, o, rfl, c0⟩ := hh j hj
    exact ⟨b, o, rfl, go _ _ _ (fun q hq => (ho q hq).2.1 b o none _ _ rfl) c0⟩
  · obtain ⟨b, o, rfl, c0⟩ := ht j hj
    exact ⟨b, o, rfl, go _ _ _ (fun q hq => (ho q hq).2.2 b o none _ _ rfl) c0⟩
theorem Bs.grown {w w' : World} {b : Nat} {vn vh vt : Value} {st : LSt} {row : Option Nat} (h : Bs w b vn vh vt st) (hg : w.grownBy w' row) (ho : ∀ q, row = some q → Off3 q vn vh vt ∧ q ≠ b) : Bs w' b vn vh vt st := by
  have e := hg.block b h.lt (fun e => (ho b e.symm).2 rfl)
  exact ⟨⟨(World.cell?_of_block (w := w) (a := ⟨b, 0, none⟩) e).trans h.c.1, (World.cell?_of_block (w := w) (a := ⟨b, 1, none⟩) e).trans h.c.2.1, (World.cell?_of_block (w := w) (a := ⟨b, 2, none⟩) e).trans h.c.2.2⟩, fun o => (World.frozen?_of_block (w := w) (a := ⟨b, o, none⟩) e).trans (h.z o), off_grown h.s hg fun q hq => (ho q hq).1⟩
/-- another box's cells stay -/
theorem Bs.other {w : World} {b b' o : Nat} {vn vh vt u : Value} {st : LSt} (h : Bs w b vn vh vt st) (hb : b ≠ b') (ho : Off3 b' vn vh vt) : Bs (w.setCell ⟨b', o, none⟩ u) b vn vh vt st := by
  have c : ∀ p, (w.setCell ⟨b', o, none⟩ u).cell? ⟨b, p, none⟩ = w.cell? ⟨b, p, none⟩ := fun p => World.cell?_setCell_other _ _ _ _ (by intro e; have := congrArg Addr.block e; first | exact hb this | exact hb this.symm)
  exact ⟨⟨(c 0).trans h.c.1, (c 1).trans h.c.2.1, (c 2).trans h.c.2.2⟩, fun p => by rw [World.frozen?_setCell]; exact h.z p, IsLS.off h.s ho⟩
end Go.Proofs.Ytkcenadenmkgnaa
