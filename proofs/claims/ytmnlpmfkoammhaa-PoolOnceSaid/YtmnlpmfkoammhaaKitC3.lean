/- My own small kit of layer 3: cells of a pool, the document's and the program's; slices of them that can be read. -/
import Derived.Test.YtmnlpmfkoammhaaKitI
import Derived.Lib.Hide
namespace Go.Proofs.Ytmnlpmfkoammhaa
open Go.RowKit
set_option linter.unusedVariables false
set_option linter.unusedSimpArgs false

abbrev Cel := Int × Bool × Int
abbrev Cel.gen (c : Cel) : Int := c.1
abbrev Cel.live (c : Cel) : Bool := c.2.1
abbrev Cel.val (c : Cel) : Int := c.2.2
abbrev celV (c : Cel) : Value := .agg #[.int .i64 c.1, .bool c.2.1, .int .i64 c.2.2]
def celVs (c : Cel) : List Value := [.int .i64 c.1, .bool c.2.1, .int .i64 c.2.2]
abbrev St := List Cel × List Int

/-- v is a slice that reads as these cells -/
def IsC (w : World) (v : Value) (l : List Cel) : Prop :=
  ∃ p cap, v = .slice p l.length cap ∧ ∀ j (h : j < l.length), ∃ b off, p = some ⟨b, off, none⟩ ∧
    w.cell? ⟨b, off + j * 3, none⟩ = some (.int .i64 l[j].1) ∧ w.cell? ⟨b, off + j * 3 + 1, none⟩ = some (.bool l[j].2.1) ∧ w.cell? ⟨b, off + j * 3 + 2, none⟩ = some (.int .i64 l[j].2.2)
theorem IsC.call {W w1 : World} {v : Value} {l : List Cel} (h : IsC W v l) (hb : Below W.heap.size W w1) : IsC w1 v l := by
  obtain ⟨p, cap, rfl, h⟩ := h
  refine ⟨p, cap, rfl, fun j hj => ?_⟩
  obtain ⟨b, off, rfl, h0, h1, h2⟩ := h j hj
  exact ⟨b, off, rfl, (hb.cell (p := ⟨b, off + j * 3, none⟩) (World.block_lt_of_cell? _ _ h0)).trans h0, (hb.cell (p := ⟨b, off + j * 3 + 1, none⟩) (World.block_lt_of_cell? _ _ h1)).trans h1, (hb.cell (p := ⟨b, off + j * 3 + 2, none⟩) (World.block_lt_of_cell? _ _ h2)).trans h2⟩
/-- a state that can be read -/
def IsSt (w : World) (vc vf : Value) (st : St) : Prop := IsC w vc st.1 ∧ IsI w vf st.2
theorem IsSt.call {W w1 : World} {vc vf : Value} {st : St} (h : IsSt W vc vf st) (hb : Below W.heap.size W w1) : IsSt w1 vc vf st := ⟨h.1.call hb, h.2.call hb⟩

/-- the place of the live cell with a handle -/
def hasH (h : Int) (j : Nat) (c : Cel) : Bool := c.2.1 && decide (wrap64 (wrap64 (64 * c.1) + j) = h)
/-- from place k on -/
def placeF : List Cel → Int → Nat → Int
  | [], _, _ => -1
  | c :: r, h, k => if hasH h k c then (k : Int) else placeF r h (k + 1)
def placeN (l : List Cel) (h : Int) : Int := placeF l h 0
theorem placeF_drop (l : List Cel) (h : Int) (k : Nat) (hk : k < l.length) : placeF (l.drop k) h k = if hasH h k l[k] then (k : Int) else placeF (l.drop (k + 1)) h (k + 1) := by
  rw [List.drop_eq_getElem_cons hk]; rfl
theorem placeF_bd (l : List Cel) (h : Int) : ∀ k, placeF l h k = -1 ∨ ((k : Int) ≤ placeF l h k ∧ placeF l h k < k + l.length) := by
  induction l with
  | nil => intro k; left; rfl
  | cons c r ih =>
    intro k
    unfold placeF
    split
    · right; rw [List.length_cons]; omega
    · rcases ih (k + 1) with h1 | h1
      · left; exact h1
      · right; rw [List.length_cons]; omega
theorem placeN_bd (l : List Cel) (h : Int) : placeN l h = -1 ∨ (0 ≤ placeN l h ∧ placeN l h < l.length) := by
  have := placeF_bd l h 0
  unfold placeN; omega
def genBad (c : Cel) : Bool := decide (c.1 < 0) || decide (1048576 < c.1)
def valBad (c : Cel) : Bool := !c.2.1 && decide (c.2.2 ≠ 0)
def canGo (c : Cel) : Bool := !c.2.1 && decide (c.1 < 1048576)
/-- the cell at a place (one that is live, beyond them) -/
def celAt (l : List Cel) (j : Nat) : Cel := l.getD j (0, true, 0)
theorem celAt_lt (l : List Cel) (j : Nat) (h : j < l.length) : celAt l j = l[j] := by unfold celAt; simp [List.getD, h]
/-- a place that may be free -/
def plB (l : List Cel) (p : Int) : Bool := decide (0 ≤ p) && decide (p < l.length) && canGo (celAt l p.toNat)
def freeB (st : St) : Bool := st.2.all (plB st.1) && decide st.2.Nodup && (List.range st.1.length).all fun j => !canGo (celAt st.1 j) || decide ((j : Int) ∈ st.2)
def chkN (st : St) : Int :=
  if st.1.length < 1 ∨ 64 < st.1.length then 5
  else if st.1.any genBad then 8
  else if st.1.any valBad then 4
  else if freeB st then 0 else 10
theorem chkN_bd (st : St) : 0 ≤ chkN st ∧ chkN st ≤ 10 := by unfold chkN; repeat' split <;> omega
theorem freeB_no1 {st : St} {p : Int} (h : p ∈ st.2) (hb : plB st.1 p = false) : freeB st = false := by
  unfold freeB
  have : st.2.all (plB st.1) = false := by rw [List.all_eq_false]; exact ⟨p, h, by simp [hb]⟩
  rw [this]; rfl
theorem freeB_no2 {st : St} {k : Nat} (hk : k < st.2.length) (h : st.2[k] ∈ st.2.take k) : freeB st = false := by
  unfold freeB
  have : ¬ st.2.Nodup := by
    intro hn
    obtain ⟨i, hi, e⟩ := List.mem_iff_getElem.1 h
    rw [List.length_take] at hi
    rw [List.getElem_take] at e
    unfold List.Nodup at hn
    exact (List.pairwise_iff_getElem.1 hn) i k (by omega) hk (by omega) e
  rw [decide_eq_false this]; simp
theorem freeB_no3 {st : St} {j : Nat} (hj : j < st.1.length) (hc : canGo (celAt st.1 j) = true) (h : ¬ (j : Int) ∈ st.2) : freeB st = false := by
  unfold freeB
  have : ((List.range st.1.length).all fun j => !canGo (celAt st.1 j) || decide ((j : Int) ∈ st.2)) = false := by
    rw [List.all_eq_false]; exact ⟨j, List.mem_range.2 hj, by simp [hc, h]⟩
  rw [this]; simp
theorem freeB_yes {st : St} (h1 : ∀ k (hk : k < st.2.length), plB st.1 st.2[k] = true ∧ ¬ st.2[k] ∈ st.2.take k) (h3 : ∀ j, j < st.1.length → canGo (celAt st.1 j) = true → (j : Int) ∈ st.2) : freeB st = true := by
  unfold freeB
  rw [Bool.and_eq_true, Bool.and_eq_true]
  refine ⟨⟨?_, ?_⟩, ?_⟩
  · rw [List.all_eq_true]; intro p hp
    obtain ⟨k, hk, rfl⟩ := List.mem_iff_getElem.1 hp
    exact (h1 k hk).1
  · rw [decide_eq_true_eq]
    unfold List.Nodup
    rw [List.pairwise_iff_getElem]
    intro i j hi hj hij e
    refine (h1 j hj).2 (List.mem_iff_getElem.2 ⟨i, by rw [List.length_take]; omega, ?_⟩)
    rw [List.getElem_take]; exact e
  · rw [List.all_eq_true]; intro j hj
    have := h3 j (List.mem_range.1 hj)
    cases hc : canGo (celAt st.1 j) with
    | false => rfl
    | true => simp [this hc]
end Go.Proofs.Ytmnlpmfkoammhaa
