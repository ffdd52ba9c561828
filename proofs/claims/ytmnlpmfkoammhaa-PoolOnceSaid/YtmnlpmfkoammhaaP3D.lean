/- Contracts of layer 3, the document's: another cell at a place. -/
import Derived.Test.YtmnlpmfkoammhaaKitC3
import Derived.Laws.AppendOwnNone
import Derived.Laws.OwnMore
namespace Go.Proofs.Ytmnlpmfkoammhaa
open Go.RowKit
set_option linter.unusedVariables false
set_option linter.unusedSimpArgs false

abbrev celF (l : List Cel) : List Value := l.flatMap celVs
theorem celF_len (l : List Cel) : (celF l).length = l.length * 3 := by
  induction l with
  | nil => rfl
  | cons c r ih =>
    have : celF (c :: r) = celVs c ++ celF r := rfl
    rw [this, List.length_append, ih, List.length_cons]; simp [celVs]; omega
theorem celF_get (l : List Cel) : ∀ (k : Nat) (h : k < l.length), (celF l)[k * 3]? = some (.int .i64 l[k].1) ∧ (celF l)[k * 3 + 1]? = some (.bool l[k].2.1) ∧ (celF l)[k * 3 + 2]? = some (.int .i64 l[k].2.2) := by
  induction l with
  | nil => intro k h; cases h
  | cons c r ih =>
    intro k h
    have e : celF (c :: r) = .int .i64 c.1 :: .bool c.2.1 :: .int .i64 c.2.2 :: celF r := rfl
    rw [e]
    match k, h with
    | 0, h => exact ⟨rfl, rfl, rfl⟩
    | k + 1, h =>
      have h' : k < r.length := by rw [List.length_cons] at h; omega
      have := ih k h'
      have e0 : (k + 1) * 3 = k * 3 + 3 := by omega
      rw [e0]
      exact this
theorem celF_set (l : List Cel) (c : Cel) : ∀ (k : Nat), k < l.length → (((celF l).set (k * 3) (.int .i64 c.1)).set (k * 3 + 1) (.bool c.2.1)).set (k * 3 + 2) (.int .i64 c.2.2) = celF (l.set k c) := by
  induction l with
  | nil => intro k h; cases h
  | cons d r ih =>
    intro k h
    have e : ∀ (x : Cel) s, celF (x :: s) = .int .i64 x.1 :: .bool x.2.1 :: .int .i64 x.2.2 :: celF s := fun _ _ => rfl
    match k, h with
    | 0, h => rfl
    | k + 1, h =>
      have h' : k < r.length := by rw [List.length_cons] at h; omega
      have e0 : (k + 1) * 3 = k * 3 + 3 := by omega
      rw [e0, List.set_cons_succ, e, e, ← ih k h']
      rfl
/-- what a slice of cells reads as, cell after cell -/
theorem IsC.flat {w : World} {b off cap : Nat} {l : List Cel} (h : IsC w (.slice (some ⟨b, off, none⟩) l.length cap) l) (j : Nat) (u : Value) (hu : (celF l)[j]? = some u) : w.cell? ⟨b, off + j, none⟩ = some u := by
  obtain ⟨p, cap', e, h⟩ := h
  simp only [Value.slice.injEq] at e
  obtain ⟨rfl, -, rfl⟩ := e
  have hj : j < (celF l).length := (List.getElem?_eq_some_iff.1 hu).1
  rw [celF_len] at hj
  have hk : j / 3 < l.length := by omega
  obtain ⟨b', off', e, h0, h1, h2⟩ := h (j / 3) hk
  simp only [Option.some.injEq, Addr.mk.injEq, and_true] at e
  obtain ⟨rfl, rfl⟩ := e
  obtain ⟨g0, g1, g2⟩ := celF_get l (j / 3) hk
  have hm : j = j / 3 * 3 ∨ j = j / 3 * 3 + 1 ∨ j = j / 3 * 3 + 2 := by omega
  rcases hm with hm | hm | hm
  · rw [hm, g0] at hu; rw [hm, ← hu]; exact h0
  · rw [hm, g1] at hu; rw [hm, ← hu, ← Nat.add_assoc]; exact h1
  · rw [hm, g2] at hu; rw [hm, ← hu, ← Nat.add_assoc]; exact h2
theorem celF_one (l : List Cel) : ∀ u ∈ celF l, u.oneCell' = true := by
  intro u hu
  obtain ⟨c, _, hc⟩ := List.mem_flatMap.1 hu
  simp only [celVs, List.mem_cons, List.not_mem_nil, or_false] at hc
  rcases hc with rfl | rfl | rfl <;> rfl
/-- v is a slice of the call's own (from block B on, cells of type E) that holds these cells -/
def OwnC (E : TypeId) (w : World) (B : Nat) (v : Value) (l : List Cel) : Prop := w.ownsRow B E 3 v l.length (celF l)
theorem OwnC.reads {E : TypeId} {w : World} {B : Nat} {v : Value} {l : List Cel} (h : OwnC E w B v l) : IsC w v l := by
  have h' : w.ownsRow B E 3 v l.length (celF l) := h
  rcases h.2 with ⟨hv, hn⟩ | ⟨g, cap, cur, hv, hB, hg, r⟩
  · obtain rfl := List.eq_nil_of_length_eq_zero hn
    exact ⟨none, 0, hv, fun j hj => by cases hj⟩
  · subst hv
    refine ⟨_, cap, rfl, fun j hj => ⟨g, 0, rfl, ?_⟩⟩
    obtain ⟨g0, g1, g2⟩ := celF_get l j hj
    rw [Nat.zero_add]
    exact ⟨by rw [h'.cellAt _ (by omega), g0], by rw [h'.cellAt _ (by omega), g1], by rw [h'.cellAt _ (by omega), g2]⟩
theorem info_cel : (Try.prog.info? 64).map (fun i => (i.zero, i.size, i.bytes)) = some (some (.agg #[.int .i64 0, .bool false, .int .i64 0]), 3, 24) := by kernel_rfl
end Go.Proofs.Ytmnlpmfkoammhaa
