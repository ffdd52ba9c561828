/- Layer 13, the mathematics: a bucket of tokens. -/
import Derived.Test.YtpmabkegjdjodaaKit
import Derived.IntWalk
namespace Go.Proofs.Ytpmabkegjdjodaa
open Go.RowKit
set_option linter.unusedVariables false
set_option linter.unusedSimpArgs false

def hldN (n a b : Int) : Int := max a (min b n)
/-- may a conf be? -/
def cnfB (B R : Int) : Bool := decide (1 ≤ B ∧ B ≤ 1000) && decide (0 ≤ R ∧ R ≤ 1000)
def cnfE (B R : Int) : Int := if cnfB B R = true then 0 else 8
/-- may a bucket be? -/
def finB (B R T A : Int) : Bool := cnfB B R && (decide (0 ≤ T ∧ T ≤ B) && decide (0 ≤ A ∧ A ≤ 1099511627776))
def lvlN (B R T A now : Int) : Int := if finB B R T A = true then min B (T + R * (hldN now A 1099511627776 - A)) else 0
/-- are so many tokens taken? -/
def tkB (B R T A now n : Int) : Bool := finB B R T A && decide (0 ≤ n ∧ n ≤ lvlN B R T A now)
def tkT (B R T A now n : Int) : Int := if tkB B R T A now n = true then lvlN B R T A now - n else T
def tkA (B R T A now n : Int) : Int := if tkB B R T A now n = true then hldN now A 1099511627776 else A
def waitN (B R T A now n : Int) : Int :=
  if finB B R T A = true ∧ 0 ≤ n ∧ n ≤ B then (if n ≤ lvlN B R T A now then 0 else if R = 0 then -1 else (n - lvlN B R T A now + R - 1) / R) else -1
def mostN (B R n : Int) : Int := if cnfB B R = true then B + R * hldN n 0 1073741824 else 0
def sameB13 (B R T A T' A' now : Int) : Bool := finB B R T A && (finB B R T' A' && decide (lvlN B R T A now = lvlN B R T' A' now))
/-- a token at each of some ticks -/
def runB (B R : Int) : List Int → Int × Int → (Int × Int) × List Bool
  | [], st => (st, [])
  | t :: l, st => ((runB B R l (tkT B R st.1 st.2 t 1, tkA B R st.1 st.2 t 1)).1, tkB B R st.1 st.2 t 1 :: (runB B R l (tkT B R st.1 st.2 t 1, tkA B R st.1 st.2 t 1)).2)
theorem cnf_iff {B R : Int} : cnfB B R = true ↔ (1 ≤ B ∧ B ≤ 1000) ∧ (0 ≤ R ∧ R ≤ 1000) := by
  unfold cnfB
  rw [Bool.and_eq_true, decide_eq_true_iff, decide_eq_true_iff]
theorem fin_iff {B R T A : Int} : finB B R T A = true ↔ ((1 ≤ B ∧ B ≤ 1000) ∧ (0 ≤ R ∧ R ≤ 1000)) ∧ (0 ≤ T ∧ T ≤ B) ∧ 0 ≤ A ∧ A ≤ 1099511627776 := by
  unfold finB
  rw [Bool.and_eq_true, Bool.and_eq_true, cnf_iff, decide_eq_true_iff, decide_eq_true_iff]
theorem hld_bd {n a b : Int} (h : a ≤ b) : a ≤ hldN n a b ∧ hldN n a b ≤ b := by unfold hldN; omega
theorem hld_in {n a b : Int} (h1 : a ≤ n) (h2 : n ≤ b) : hldN n a b = n := by unfold hldN; omega
/-- the product of a rate and some ticks -/
theorem prod_bd {R d : Int} (hR : 0 ≤ R) (hR' : R ≤ 1000) (hd : 0 ≤ d) (hd' : d ≤ 1099511627776) : 0 ≤ R * d ∧ R * d ≤ 1099511627776000 := by
  have h1 := Int.mul_nonneg hR hd
  have h2 : R * d ≤ 1000 * d := Int.mul_le_mul_of_nonneg_right hR' hd
  exact ⟨h1, by omega⟩
theorem lvl_bd {B R T A : Int} (h : finB B R T A = true) (now : Int) : 0 ≤ lvlN B R T A now ∧ lvlN B R T A now ≤ B := by
  obtain ⟨⟨h1, h2⟩, h3, h4⟩ := fin_iff.1 h
  have hh := hld_bd (n := now) h4.2
  have hp := prod_bd (d := hldN now A 1099511627776 - A) h2.1 h2.2 (by omega) (by omega)
  unfold lvlN
  rw [if_pos h]
  omega
theorem tk_fine {B R T A now n : Int} (h : finB B R T A = true) : finB B R (tkT B R T A now n) (tkA B R T A now n) = true := by
  unfold tkT tkA
  by_cases ht : tkB B R T A now n = true
  · rw [if_pos ht, if_pos ht]
    have hl := lvl_bd h now
    obtain ⟨⟨h1, h2⟩, h3, h4⟩ := fin_iff.1 h
    have hh := hld_bd (n := now) h4.2
    unfold tkB at ht
    rw [Bool.and_eq_true, decide_eq_true_iff] at ht
    exact fin_iff.2 ⟨⟨h1, h2⟩, by omega, by omega⟩
  · rw [if_neg ht, if_neg ht]
    exact h
/-- the level goes up by the rate for each tick, up to the burst -/
theorem lvl_later {B R T A now d : Int} (h : finB B R T A = true) (h1 : A ≤ now) (hd : 0 ≤ d) (h2 : now + d ≤ 1099511627776) : lvlN B R T A (now + d) = min B (lvlN B R T A now + R * d) := by
  obtain ⟨⟨c1, c2⟩, h3, h4⟩ := fin_iff.1 h
  unfold lvlN
  rw [if_pos h, if_pos h, hld_in (by omega) h2, hld_in h1 (by omega)]
  have e : R * (now + d - A) = R * (now - A) + R * d := by rw [← Int.mul_add]; congr 1; omega
  have hp := prod_bd (d := d) c2.1 c2.2 hd (by omega)
  rw [e]
  omega
/-- the tokens of the wait -/
theorem ceil_up {x R : Int} (hx : 0 < x) (hR : 0 < R) : x ≤ R * ((x + R - 1) / R) ∧ R * ((x + R - 1) / R - 1) < x ∧ 0 < (x + R - 1) / R ∧ (x + R - 1) / R ≤ x := by
  have h1 := Int.mul_ediv_add_emod (x + R - 1) R
  have h2 := Int.emod_nonneg (x + R - 1) (show R ≠ 0 by omega)
  have h3 := Int.emod_lt_of_pos (x + R - 1) hR
  have e : R * ((x + R - 1) / R - 1) = R * ((x + R - 1) / R) - R := by rw [Int.mul_sub, Int.mul_one]
  have hq : 0 < (x + R - 1) / R := by
    apply Classical.byContradiction
    intro hn
    have : R * ((x + R - 1) / R) ≤ R * 0 := Int.mul_le_mul_of_nonneg_left (by omega) (by omega)
    omega
  refine ⟨by omega, by omega, hq, ?_⟩
  have h4 : 1 * ((x + R - 1) / R - 1) ≤ R * ((x + R - 1) / R - 1) := Int.mul_le_mul_of_nonneg_right (by omega) (by omega)
  omega
/-- what is waited for is there then, and not one tick ahead -/
theorem wait_then {B R T A now n : Int} (h : finB B R T A = true) (h1 : A ≤ now) (h2 : now + 1000 ≤ 1099511627776) (hn : 0 ≤ n) (hnB : n ≤ B) (hw : 0 ≤ waitN B R T A now n) :
    n ≤ lvlN B R T A (now + waitN B R T A now n) ∧ (waitN B R T A now n = 0 ∨ lvlN B R T A (now + waitN B R T A now n - 1) < n) ∧ waitN B R T A now n ≤ 1000 := by
  obtain ⟨⟨c1, c2⟩, h3, h4⟩ := fin_iff.1 h
  have hl := lvl_bd h now
  unfold waitN at hw ⊢
  rw [if_pos ⟨h, hn, hnB⟩] at hw ⊢
  by_cases g : n ≤ lvlN B R T A now
  · rw [if_pos g, Int.add_zero]
    exact ⟨g, .inl rfl, by omega⟩
  · rw [if_neg g] at hw ⊢
    by_cases g2 : R = 0
    · rw [if_pos g2] at hw
      omega
    · rw [if_neg g2] at hw ⊢
      obtain ⟨a, b, c, d⟩ := ceil_up (x := n - lvlN B R T A now) (R := R) (by omega) (by omega)
      generalize (n - lvlN B R T A now + R - 1) / R = q at a b c d ⊢
      refine ⟨?_, .inr ?_, by omega⟩
      · rw [lvl_later h h1 (by omega) (by omega)]
        omega
      · rw [show now + q - 1 = now + (q - 1) by omega, lvl_later h h1 (by omega) (by omega)]
        omega
theorem wait_no {B R T A now n : Int} (h : finB B R T A = true) (hn : 0 ≤ n) (hnB : n ≤ B) (hw : waitN B R T A now n < 0) : R = 0 ∧ ∀ t, lvlN B R T A t < n := by
  obtain ⟨⟨c1, c2⟩, h3, h4⟩ := fin_iff.1 h
  unfold waitN at hw
  rw [if_pos ⟨h, hn, hnB⟩] at hw
  by_cases g : n ≤ lvlN B R T A now
  · rw [if_pos g] at hw; omega
  · rw [if_neg g] at hw
    by_cases g2 : R = 0
    · refine ⟨g2, fun t => ?_⟩
      unfold lvlN at g ⊢
      rw [if_pos h] at g ⊢
      rw [g2, Int.zero_mul] at g ⊢
      exact Int.not_le.1 g
    · rw [if_neg g2] at hw
      obtain ⟨_, _, c, _⟩ := ceil_up (x := n - lvlN B R T A now) (R := R) (by omega) (by omega)
      omega
theorem wait_far {B R T A now n : Int} (h : B < n) : waitN B R T A now n = -1 := by
  unfold waitN
  rw [if_neg (by omega)]
theorem run_snoc (B R : Int) : ∀ (l : List Int) (t : Int) (st : Int × Int), runB B R (l ++ [t]) st =
    ((tkT B R (runB B R l st).1.1 (runB B R l st).1.2 t 1, tkA B R (runB B R l st).1.1 (runB B R l st).1.2 t 1), (runB B R l st).2 ++ [tkB B R (runB B R l st).1.1 (runB B R l st).1.2 t 1])
  | [], _, _ => rfl
  | x :: l, t, st => by
    have ih := run_snoc B R l t (tkT B R st.1 st.2 x 1, tkA B R st.1 st.2 x 1)
    show ((runB B R (l ++ [t]) _).1, _ :: (runB B R (l ++ [t]) _).2) = _
    rw [ih]
    rfl
/-! ### no more go than the burst and the rate -/
/-- of each taken token on: how many were taken, and what is there, is no more than the burst and the rate -/
def Held (B R : Int) (at' : List Int) (T A : Int) : Prop := ∀ k (h : k < at'.length), at'[k] ≤ A ∧ ((at'.length : Int) - k) + T ≤ B + R * (A - at'[k])
theorem Held.start (B R T A : Int) : Held B R [] T A := fun k h => by cases h
theorem Held.take {B R T A now : Int} {l : List Int} (h : Held B R l T A) (hf : finB B R T A = true) (h1 : A ≤ now) (h2 : now ≤ 1099511627776) (ht : tkB B R T A now 1 = true) :
    Held B R (l ++ [now]) (tkT B R T A now 1) (tkA B R T A now 1) := by
  have e1 : tkT B R T A now 1 = lvlN B R T A now - 1 := if_pos ht
  have e2 : tkA B R T A now 1 = now := (if_pos ht).trans (hld_in h1 h2)
  have hl := lvl_bd hf now
  have hlv : lvlN B R T A now ≤ T + R * (now - A) := by
    unfold lvlN
    rw [if_pos hf, hld_in h1 h2]
    omega
  intro k hk
  rw [List.length_append, List.length_singleton] at hk ⊢
  rw [e1, e2]
  by_cases hkl : k < l.length
  · obtain ⟨a, b⟩ := h k hkl
    rw [List.getElem_append_left hkl]
    have e3 : R * (now - l[k]) = R * (now - A) + R * (A - l[k]) := by rw [← Int.mul_add]; congr 1; omega
    rw [e3]
    exact ⟨by omega, by omega⟩
  · obtain rfl : k = l.length := by omega
    rw [List.getElem_append_right (Nat.le_refl _)]
    simp only [Nat.sub_self, List.getElem_singleton]
    rw [Int.sub_self, Int.mul_zero]
    exact ⟨Int.le_refl _, by omega⟩
theorem Held.most {B R T A now : Int} {l : List Int} (h : Held B R l T A) (hf : finB B R T A = true) (h1 : A ≤ now) {k : Nat} (hk : k < l.length) (h2 : now - l[k] ≤ 1073741824) : (l.length : Int) - k ≤ mostN B R (now - l[k]) := by
  obtain ⟨⟨c1, c2⟩, h3, h4⟩ := fin_iff.1 hf
  obtain ⟨a, b⟩ := h k hk
  unfold mostN
  rw [if_pos (cnf_iff.2 ⟨c1, c2⟩), hld_in (by omega) h2]
  have e3 : R * (now - l[k]) = R * (now - A) + R * (A - l[k]) := by rw [← Int.mul_add]; congr 1; omega
  have e4 := Int.mul_nonneg c2.1 (show 0 ≤ now - A by omega)
  omega
end Go.Proofs.Ytpmabkegjdjodaa
