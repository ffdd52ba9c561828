/- Layer 14, for SourceApart: what a step does to the sources' own buckets, and to what was taken. -/
import Derived.Test.YtpmabkegjdjodaaQ14M
namespace Go.Proofs.Ytpmabkegjdjodaa
open Go.RowKit
set_option linter.unusedVariables false
set_option linter.unusedSimpArgs false

/-- the sources' own buckets behind an ask -/
def ownN (B R : Int) (S : List En) (own : Int → Int × Int) (s t : Int) (k : Int) : Int × Int :=
  if tkE14 B R S s t = 7 then own k else if k = s then (tkT B R (own s).1 (own s).2 t 1, tkA B R (own s).1 (own s).2 t 1) else own k
theorem apart_step {B R : Int} {S : List En} {own : Int → Int × Int} {N s t : Int} (h : Apart B R S own N) (h1 : N ≤ t) (h2 : t ≤ 1099511627776) (hs : mayS s = true) :
    Apart B R (tkS14 B R S s t) (ownN B R S own s t) t ∧ (tkE14 B R S s t = 7 → 8 ≤ (clnS B R S t).length) ∧ (tkE14 B R S s t ≠ 7 → (tkE14 B R S s t = 0 ↔ tkB B R (own s).1 (own s).2 t 1 = true)) := by
  obtain ⟨q1, q2⟩ := (h.later h1 h2).take hs
  by_cases hE : tkE14 B R S s t = 7
  · refine ⟨?_, fun _ => (q1 hE).1, fun q => absurd hE q⟩
    have e : ownN B R S own s t = own := by funext k; unfold ownN; rw [if_pos hE]
    rw [e]
    exact (q1 hE).2
  · refine ⟨?_, fun q => absurd q hE, fun _ => (q2 hE).1⟩
    have e : ownN B R S own s t = fun k => if k = s then (tkT B R (own s).1 (own s).2 t 1, tkA B R (own s).1 (own s).2 t 1) else own k := by funext k; unfold ownN; rw [if_neg hE]
    rw [e]
    exact (q2 hE).2
/-- what was taken of each of the ten -/
def Took (B R : Int) (own : Int → Int × Int) (g : Nat → List Int) (n : Nat) : Prop :=
  ∀ j, j < 10 → Held B R (g j) (own (j : Int)).1 (own (j : Int)).2 ∧ (∀ x ∈ g j, 0 ≤ x) ∧ (g j).length ≤ n
theorem Took.no {B R : Int} {S : List En} {own : Int → Int × Int} {N t : Int} {m n : Nat} {g : Nat → List Int} (ha : Apart B R S own N) (h1 : N ≤ t) (h2 : t ≤ 1099511627776) (hs : mayS (m : Int) = true) (h : Took B R own g n) (hE : tkE14 B R S (m : Int) t ≠ 0) : Took B R (ownN B R S own (m : Int) t) g (n + 1) := by
  intro j hj
  obtain ⟨a, b, c⟩ := h j hj
  refine ⟨?_, b, by omega⟩
  unfold ownN
  by_cases h7 : tkE14 B R S (m : Int) t = 7
  · rw [if_pos h7]; exact a
  · rw [if_neg h7]
    by_cases hk : (j : Int) = (m : Int)
    · rw [if_pos hk]
      have hb : tkB B R (own (m : Int)).1 (own (m : Int)).2 t 1 = false := by
        have := (apart_step ha h1 h2 hs).2.2 h7
        cases hh : tkB B R (own (m : Int)).1 (own (m : Int)).2 t 1
        · rfl
        · exact absurd (this.2 hh) hE
      unfold tkT tkA
      rw [hb, if_neg (by decide), if_neg (by decide), ← hk]
      exact a
    · rw [if_neg hk]; exact a
theorem Took.yes {B R : Int} {S : List En} {own : Int → Int × Int} {N t : Int} {m n : Nat} {g : Nat → List Int} (ha : Apart B R S own N) (h0 : 0 ≤ t) (h1 : N ≤ t) (h2 : t ≤ 1099511627776) (hs : mayS (m : Int) = true) (h : Took B R own g n) (hE : tkE14 B R S (m : Int) t = 0) :
    Took B R (ownN B R S own (m : Int) t) (fun k => if k = m then g m ++ [t] else g k) (n + 1) := by
  intro j hj
  obtain ⟨a, b, c⟩ := h j hj
  have h7 : tkE14 B R S (m : Int) t ≠ 7 := by rw [hE]; decide
  have hb := ((apart_step ha h1 h2 hs).2.2 h7).1 hE
  by_cases hk : j = m
  · subst hk
    simp only [if_true]
    have e : ownN B R S own (j : Int) t (j : Int) = (tkT B R (own (j : Int)).1 (own (j : Int)).2 t 1, tkA B R (own (j : Int)).1 (own (j : Int)).2 t 1) := by unfold ownN; rw [if_neg h7, if_pos rfl]
    rw [e]
    obtain ⟨o1, o2⟩ := ha.o (j : Int)
    refine ⟨a.take o1 (by omega) h2 hb, fun x hx => ?_, by rw [List.length_append, List.length_singleton]; omega⟩
    rcases List.mem_append.1 hx with q | q
    · exact b x q
    · rw [List.mem_singleton.1 q]; exact h0
  · have e : ownN B R S own (m : Int) t (j : Int) = own (j : Int) := by unfold ownN; rw [if_neg h7, if_neg (by omega)]
    simp only [if_neg hk]
    rw [e]
    exact ⟨a, b, by omega⟩
/-- no more are taken than the most -/
theorem Took.most {B R : Int} {S : List En} {own : Int → Int × Int} {t : Int} {m n : Nat} {g : Nat → List Int} (ha : Apart B R S own t) (ht : t ≤ 1000000) (hm : m < 10) (h : Took B R own g n) {q : Nat} (hq : q < (g m).length) :
    (((g m).length : Int) - q) ≤ mostN B R (t - (g m)[q]) ∧ 0 ≤ (g m)[q] ∧ (g m)[q] ≤ t := by
  obtain ⟨a, b, _⟩ := h m hm
  obtain ⟨o1, o2⟩ := ha.o (m : Int)
  obtain ⟨⟨c1, c2⟩, c3, c4⟩ := fin_iff.1 o1
  obtain ⟨h1, h2⟩ := a q hq
  have h3 := b _ (List.getElem_mem hq)
  generalize (g m)[q] = x at h1 h2 h3 ⊢
  have hc : cnfB B R = true := cnf_iff.2 ⟨c1, c2⟩
  unfold mostN
  rw [if_pos hc, hld_in (by omega) (by omega)]
  have e1 : R * ((own (m : Int)).2 - x) ≤ R * (t - x) := Int.mul_le_mul_of_nonneg_left (by omega) c2.1
  refine ⟨?_, h3, by omega⟩
  omega
theorem Took.start (B R : Int) (own : Int → Int × Int) : Took B R own (fun _ => []) 0 := fun j _ => ⟨Held.start _ _ _ _, by simp, Nat.le_refl _⟩
end Go.Proofs.Ytpmabkegjdjodaa
