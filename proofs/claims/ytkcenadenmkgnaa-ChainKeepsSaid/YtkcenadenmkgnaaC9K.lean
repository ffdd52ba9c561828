/- ChainKeeps: what the law holds at the head of its round: a box with a state, and a row of numbers beside it. -/
import Derived.Test.YtkcenadenmkgnaaC8K
namespace Go.Proofs.Ytkcenadenmkgnaa
open Go.RowKit
set_option linter.unusedVariables false
set_option linter.unusedSimpArgs false

/-- block b holds these numbers -/
def Wr (w : World) (b : Nat) (R : List Int) : Prop := (∀ m (h : m < R.length), w.cell? ⟨b, m, none⟩ = some (.int .i64 R[m])) ∧ (∀ o, w.frozen? ⟨b, o, none⟩ = false) ∧ b < w.heap.size
theorem Wr.call {w w1 : World} {b : Nat} {R : List Int} (h : Wr w b R) (hb : Below w.heap.size w w1) : Wr w1 b R :=
  ⟨fun m hm => (hb.cell (p := ⟨b, m, none⟩) h.2.2).trans (h.1 m hm), fun o => (hb.frozen (p := ⟨b, o, none⟩) h.2.2).trans (h.2.1 o), Nat.lt_of_lt_of_le h.2.2 hb.size⟩
theorem Wr.other {w : World} {b b' o : Nat} {u : Value} {R : List Int} (h : Wr w b R) (hb : b ≠ b') : Wr (w.setCell ⟨b', o, none⟩ u) b R :=
  ⟨fun m hm => (World.cell?_setCell_other _ _ _ _ (by intro e; have := congrArg Addr.block e; first | exact hb this | exact hb this.symm)).trans (h.1 m hm), fun p => by rw [World.frozen?_setCell]; exact h.2.1 p, by simpa using h.2.2⟩
theorem Wr.set {w : World} {b m : Nat} {v : Int} {R : List Int} (h : Wr w b R) (hm : m < R.length) : Wr (w.setCell ⟨b, m, none⟩ (.int .i64 v)) b (R.set m v) := by
  refine ⟨fun j hj => ?_, fun p => by rw [World.frozen?_setCell]; exact h.2.1 p, by simpa using h.2.2⟩
  have hj' : j < R.length := by simpa using hj
  rw [List.getElem_set]
  split
  · rename_i e
    subst e
    simp [go_sem, h.1 m hm]
  · rename_i e
    exact (World.cell?_setCell_other _ _ _ _ (by intro x; have := congrArg Addr.off x; first | exact e this | exact e this.symm)).trans (h.1 j hj')
theorem Wr.new (w : World) (R : List Int) (T : TypeId) : Wr (w.alloc (.cells (R.map (Value.int .i64)).toArray T)) w.heap.size R := by
  refine ⟨fun m hm => ?_, fun o => by simp [go_sem], by simp⟩
  have h := World.news_of_block (heap_alloc_new w (.cells (R.map (Value.int .i64)).toArray T)) m (.int .i64 R[m]) (by simp [hm])
  rw [Addr.add_lit] at h
  rw [← h]
  simp
/-- what stands at the round's head -/
structure Keeps (w0 wr : World) (base bs bw : Nat) (vn vh vt : Value) (S : LSt) (R : List Int) : Prop where
  r : ∃ L : List (List Int), L.length = 4 ∧ Rep S L
  n : S.1.length = 20
  m : R.length = 20
  x : Bs wr bs vn vh vt S
  o : Off3 bs vn vh vt
  p : Off3 bw vn vh vt
  c : Wr wr bw R
  b : Below base w0 wr
theorem Keeps.call {w0 wr w2 : World} {base bs bw : Nat} {vn vh vt : Value} {S : LSt} {R : List Int} (h : Keeps w0 wr base bs bw vn vh vt S R) (hz : base ≤ wr.heap.size) (hb : Below wr.heap.size wr w2) : Keeps w0 w2 base bs bw vn vh vt S R :=
  ⟨h.r, h.n, h.m, h.x.call hb, h.o, h.p, h.c.call hb, h.b.trans (hb.mono hz)⟩
theorem Keeps.box {w0 w2 : World} {base bs bw : Nat} {vn vh vt un uh ut : Value} {S S' : LSt} {R : List Int} (h : Keeps w0 w2 base bs bw vn vh vt S R) (hne : bs ≠ bw) (hz : base ≤ bs)
    (hI : IsLS w2 un uh ut S') (ho : Off3 bs un uh ut) (hp : Off3 bw un uh ut) (hr : ∃ L : List (List Int), L.length = 4 ∧ Rep S' L) (hn : S'.1.length = 20) :
    Keeps w0 (((w2.setCell ⟨bs, 0, none⟩ un).setCell ⟨bs, 1, none⟩ uh).setCell ⟨bs, 2, none⟩ ut) base bs bw un uh ut S' R :=
  ⟨hr, hn, h.m, h.x.put hI ho, ho, hp, ((h.c.other hne.symm).other hne.symm).other hne.symm, below_at (below_at (below_at h.b _ hz) _ hz) _ hz⟩
theorem Keeps.put {w0 w2 : World} {base bs bw m : Nat} {vn vh vt : Value} {S : LSt} {R : List Int} {v : Int} (h : Keeps w0 w2 base bs bw vn vh vt S R) (hne : bs ≠ bw) (hz : base ≤ bw) (hm : m < 20) :
    Keeps w0 (w2.setCell ⟨bw, m, none⟩ (.int .i64 v)) base bs bw vn vh vt S (R.set m v) :=
  ⟨h.r, h.n, by rw [List.length_set]; exact h.m, h.x.other hne h.p, h.o, h.p, h.c.set (by rw [h.m]; exact hm), below_at h.b _ hz⟩
/-- the lengths, as the contracts of a state want them -/
theorem Keeps.len {w0 wr : World} {base bs bw : Nat} {vn vh vt : Value} {S : LSt} {R : List Int} (h : Keeps w0 wr base bs bw vn vh vt S R) : S.1.length ≤ 1048500 ∧ S.2.1.length ≤ 1048576 ∧ S.2.2.length ≤ 1048576 := by
  obtain ⟨L, hl, hr⟩ := h.r
  obtain ⟨a, b⟩ := rep_len hr
  rw [h.n, a, b, hl]
  omega
theorem Keeps.chk {w0 wr : World} {base bs bw : Nat} {vn vh vt : Value} {S : LSt} {R : List Int} (h : Keeps w0 wr base bs bw vn vh vt S R) : chkL S = 0 := by
  obtain ⟨L, hl, hr⟩ := h.r
  exact chk_rep hr (by rw [h.n]; omega) (by omega)
/-- the deeds -/
theorem Keeps.push {w0 wr : World} {base bs bw : Nat} {vn vh vt : Value} {S : LSt} {R : List Int} (h : Keeps w0 wr base bs bw vn vh vt S R) {i x : Nat} (hi : i < 4) (hx : x < 20) :
    (wh S x = 0 → pushE S i x = 0 ∧ (∃ L : List (List Int), L.length = 4 ∧ Rep (pushS S i x) L) ∧ (pushS S i x).1.length = 20 ∧ whR (pushS S i x) = (whR S).set x (i + 1)) ∧
    (wh S x ≠ 0 → pushE S i x = 13 ∧ pushS S i x = S) := by
  obtain ⟨L, hl, hr⟩ := h.r
  obtain ⟨a, b⟩ := keep_push hr (by rw [h.n]; omega) (by omega) (i := i) (x := x) (by omega) (by rw [h.n]; exact hx)
  refine ⟨fun h0 => ?_, b⟩
  obtain ⟨c, d, e⟩ := a h0
  exact ⟨c, ⟨_, by rw [List.length_set, hl], d⟩, (push_len S i x).1.trans h.n, e⟩
theorem Keeps.unl {w0 wr : World} {base bs bw : Nat} {vn vh vt : Value} {S : LSt} {R : List Int} (h : Keeps w0 wr base bs bw vn vh vt S R) {x : Nat} (hx : x < 20) :
    (wh S x ≠ 0 → unlE S x = 0 ∧ (∃ L : List (List Int), L.length = 4 ∧ Rep (unlS S x) L) ∧ (unlS S x).1.length = 20 ∧ whR (unlS S x) = (whR S).set x 0) ∧
    (wh S x = 0 → unlE S x = 6 ∧ unlS S x = S ∧ whR S = (whR S).set x 0) := by
  obtain ⟨L, hl, hr⟩ := h.r
  obtain ⟨a, b⟩ := unl_rep hr (by rw [h.n]; omega) (by omega) (x := x) (by rw [h.n]; exact hx)
  refine ⟨fun h0 => ?_, b⟩
  obtain ⟨c, d, ⟨L', e, f⟩, g⟩ := a h0
  exact ⟨c, ⟨L', e.trans hl, f⟩, d.trans h.n, g⟩
theorem Keeps.turn {w0 wr : World} {base bs bw : Nat} {vn vh vt : Value} {S : LSt} {R : List Int} (h : Keeps w0 wr base bs bw vn vh vt S R) {i : Nat} (hi : i < 4) :
    (∃ L : List (List Int), L.length = 4 ∧ Rep (turnS S i) L) ∧ (turnS S i).1.length = 20 ∧ whR (turnS S i) = whR S := by
  obtain ⟨L, hl, hr⟩ := h.r
  obtain ⟨a, ⟨L', b, c⟩, d⟩ := keep_turn hr (by rw [h.n]; omega) (by omega) (i := i) (by omega)
  exact ⟨⟨L', b.trans hl, c⟩, a.trans h.n, d⟩
theorem Keeps.spl {w0 wr : World} {base bs bw : Nat} {vn vh vt : Value} {S : LSt} {R : List Int} (h : Keeps w0 wr base bs bw vn vh vt S R) {i j : Nat} (hi : i < 4) (hj : j < 4) :
    (i ≠ j → splE S i j = 0) ∧ (i = j → splE S i j = 2) ∧ (∃ L : List (List Int), L.length = 4 ∧ Rep (splS S i j) L) ∧ (splS S i j).1.length = 20 ∧ whR (splS S i j) = (whR S).map fun r => if r = (i : Int) + 1 then (j : Int) + 1 else r := by
  obtain ⟨L, hl, hr⟩ := h.r
  obtain ⟨a, b, c, ⟨L', d, e⟩, f⟩ := keep_spl hr (by rw [h.n]; omega) (by omega) (i := i) (j := j) (by omega) (by omega)
  exact ⟨a, b, ⟨L', d.trans hl, e⟩, c.trans h.n, f⟩
/-- what the row says of a list -/
theorem Keeps.tell {w0 wr : World} {base bs bw : Nat} {vn vh vt : Value} {S : LSt} {R : List Int} (h : Keeps w0 wr base bs bw vn vh vt S R) {i : Nat} (hi : i < 4) :
    ∃ X : List Int, walkL S i = X ∧ X.length ≤ 20 ∧ ((whR S).filter fun r => r == (i : Int) + 1).length = X.length ∧ ∀ t (ht : t < X.length), ∃ m : Nat, X[t] = m ∧ m < 20 ∧ wh S m = i + 1 := by
  obtain ⟨L, hl, hr⟩ := h.r
  have hn : 1 ≤ S.1.length ∧ S.1.length ≤ 64 := by rw [h.n]; omega
  have hi' : i < L.length := by omega
  have hc := wh_many hr hn (by omega) hi'
  refine ⟨L[i], walk_rep hr hn (by omega) hi', ?_, hc, fun t ht => ?_⟩
  · rw [← hc]
    have := List.length_filter_le (fun r => r == (i : Int) + 1) (whR S)
    rw [whR_len, h.n] at this
    exact this
  · have hm := List.getElem_mem ht
    obtain ⟨b1, b2⟩ := hr.bd hi' hm
    obtain ⟨m, e⟩ : ∃ m : Nat, L[i][t] = m := ⟨L[i][t].toNat, by omega⟩
    refine ⟨m, e, by rw [h.n] at b2; omega, ?_⟩
    exact wh_in hr hi' (by rw [← e]; exact hm)
/-- a row that is swept from the left -/
theorem sweep_at (Q : List Int) (g : Int → Int) (t : Nat) (ht : t < Q.length) : ∃ h : t < ((Q.take t).map g ++ Q.drop t).length, ((Q.take t).map g ++ Q.drop t)[t] = Q[t] := by
  have hl : ((Q.take t).map g).length = t := by simp; omega
  refine ⟨by rw [List.length_append, hl, List.length_drop]; omega, ?_⟩
  rw [List.getElem_append_right (by omega)]
  simp only [hl, Nat.sub_self, List.getElem_drop, Nat.add_zero]
theorem sweep_set (Q : List Int) (g : Int → Int) (t : Nat) (ht : t < Q.length) : ((Q.take t).map g ++ Q.drop t).set t (g Q[t]) = (Q.take (t + 1)).map g ++ Q.drop (t + 1) := by
  have hl : ((Q.take t).map g).length = t := by simp; omega
  rw [List.set_append, if_neg (by omega), hl, Nat.sub_self, List.drop_eq_getElem_cons ht, List.set_cons_zero, List.take_succ_eq_append_getElem ht, List.map_append, List.append_assoc]
  rfl
theorem sweep_keep (Q : List Int) (g : Int → Int) (t : Nat) (ht : t < Q.length) (hg : g Q[t] = Q[t]) : (Q.take t).map g ++ Q.drop t = (Q.take (t + 1)).map g ++ Q.drop (t + 1) := by
  rw [← sweep_set Q g t ht, hg]
  obtain ⟨h1, h2⟩ := sweep_at Q g t ht
  conv => rhs; rw [← h2]
  rw [List.set_getElem_self]
end Go.Proofs.Ytkcenadenmkgnaa
