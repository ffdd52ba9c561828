/- Layer 16, the mathematics: levels that rise at once and fall late. -/
import Derived.Test.YtjnonngnkkdmdaaKit
namespace Go.Proofs.Ytjnonngnkkdmdaa
open Go.RowKit
set_option linter.unusedVariables false
set_option linter.unusedSimpArgs false

/-- from which loads on levels change, and for how long a load must be low -/
structure Lc where
  u0 : Int
  u1 : Int
  u2 : Int
  d0 : Int
  d1 : Int
  d2 : Int
  h : Int
/-- a level, since when, and since when the load is low -/
structure Ls where
  l : Int
  s : Int
  w : Int
def inL (n a b : Int) : Bool := decide (a ≤ n) && decide (n ≤ b)
theorem inL_iff {n a b : Int} : inL n a b = true ↔ a ≤ n ∧ n ≤ b := by unfold inL; simp
def rngL (c : Lc) : Bool := inL c.u0 0 100 && inL c.d0 0 100 && (inL c.u1 0 100 && inL c.d1 0 100) && (inL c.u2 0 100 && inL c.d2 0 100) && inL c.h 0 1000
def ordL (c : Lc) : Bool := decide (c.d0 ≤ c.u0) && decide (c.d1 ≤ c.u1) && decide (c.d2 ≤ c.u2) && (decide (c.u0 ≤ c.u1) && decide (c.u1 ≤ c.u2)) && (decide (c.d0 ≤ c.d1) && decide (c.d1 ≤ c.d2))
def chkLv (c : Lc) : Int := if rngL c = false then 8 else if ordL c = false then 10 else 0
def finLv (st : Ls) : Bool := inL st.l 0 3 && inL st.s 0 1099511627776 && inL st.w (-1) 1099511627776
def newLv : Ls := ⟨0, 0, -1⟩
def usuLv : Lc := ⟨50, 75, 90, 40, 60, 80, 5⟩
def upL (c : Lc) (l : Int) : Int := if l = 0 then c.u0 else if l = 1 then c.u1 else c.u2
/-- the load below which a level may fall -/
def dnL (c : Lc) (l : Int) : Int := if l = 1 then c.d0 else if l = 2 then c.d1 else c.d2
def hldL (n a b : Int) : Int := max a (min b n)
/-- how far a load makes a level rise -/
def risL (c : Lc) (n : Int) : Nat → Int → Int
  | 0, l => l
  | f + 1, l => if l < 3 ∧ upL c l ≤ n then risL c n f (l + 1) else l
/-- a step, load and tick held already -/
def stpC (c : Lc) (st : Ls) (n now : Int) : Ls :=
  if st.l < risL c n 3 st.l then ⟨risL c n 3 st.l, now, -1⟩
  else if st.l = 0 ∨ dnL c st.l ≤ n then ⟨st.l, st.s, -1⟩
  else if c.h ≤ now - (if st.w < 0 then now else st.w) then ⟨st.l - 1, now, -1⟩
  else ⟨st.l, st.s, if st.w < 0 then now else st.w⟩
def stpL (c : Lc) (st : Ls) (load now : Int) : Ls :=
  if chkLv c ≠ 0 ∨ finLv st = false then st else stpC c st (hldL load 0 100) (hldL now (max st.s st.w) 1099511627776)
def runL (c : Lc) : List Int → Int → Ls → List Int
  | [], _, _ => []
  | n :: l, t, st => (stpL c st n t).l :: runL c l (t + 1) (stpL c st n t)

theorem chkLv_ok {c : Lc} (h : chkLv c = 0) : (0 ≤ c.u0 ∧ c.u0 ≤ 100) ∧ (0 ≤ c.u1 ∧ c.u1 ≤ 100) ∧ (0 ≤ c.u2 ∧ c.u2 ≤ 100) ∧ (0 ≤ c.h ∧ c.h ≤ 1000) ∧ c.d0 ≤ c.u0 ∧ c.d1 ≤ c.u1 ∧ c.d2 ≤ c.u2 ∧ c.u0 ≤ c.u1 ∧ c.u1 ≤ c.u2 ∧ c.d0 ≤ c.d1 ∧ c.d1 ≤ c.d2 := by
  unfold chkLv at h
  by_cases h1 : rngL c = false
  · rw [if_pos h1] at h; cases h
  rw [if_neg h1] at h
  by_cases h2 : ordL c = false
  · rw [if_pos h2] at h; cases h
  have h1' : rngL c = true := by simpa using h1
  have h2' : ordL c = true := by simpa using h2
  unfold rngL at h1'
  unfold ordL at h2'
  simp only [Bool.and_eq_true, inL_iff, decide_eq_true_eq] at h1' h2'
  omega
theorem finLv_iff {st : Ls} : finLv st = true ↔ (0 ≤ st.l ∧ st.l ≤ 3) ∧ (0 ≤ st.s ∧ st.s ≤ 1099511627776) ∧ (-1 ≤ st.w ∧ st.w ≤ 1099511627776) := by
  unfold finLv
  simp only [Bool.and_eq_true, inL_iff]
  omega
/-- a level rises as far as the load asks for, and no farther -/
theorem ris_is (c : Lc) (n : Int) : ∀ (f : Nat) (l : Int), 0 ≤ l → l ≤ 3 → 3 ≤ l + f → l ≤ risL c n f l ∧ risL c n f l ≤ 3 ∧ (risL c n f l < 3 → n < upL c (risL c n f l)) ∧ (l < risL c n f l → upL c l ≤ n)
  | 0, l, h0, h3, hf => by
    unfold risL
    exact ⟨Int.le_refl _, h3, fun h => by omega, fun h => by omega⟩
  | f + 1, l, h0, h3, hf => by
    unfold risL
    by_cases h : l < 3 ∧ upL c l ≤ n
    · rw [if_pos h]
      obtain ⟨a, b, d, e⟩ := ris_is c n f (l + 1) (by omega) (by omega) (by omega)
      exact ⟨by omega, b, d, fun _ => h.2⟩
    · rw [if_neg h]
      exact ⟨Int.le_refl _, h3, fun q => by
        apply Classical.byContradiction
        intro hn
        exact h ⟨q, by omega⟩, fun q => by omega⟩
theorem dn_up {c : Lc} (hc : chkLv c = 0) {l : Int} (h0 : 1 ≤ l) (h3 : l ≤ 3) : dnL c l ≤ upL c (l - 1) ∧ (l < 3 → upL c (l - 1) ≤ upL c l) := by
  obtain ⟨_, _, _, _, q1, q2, q3, q4, q5, q6, q7⟩ := chkLv_ok hc
  have hl : l = 1 ∨ l = 2 ∨ l = 3 := by omega
  rcases hl with rfl | rfl | rfl
  · exact ⟨q1, fun _ => q4⟩
  · exact ⟨q2, fun _ => q5⟩
  · exact ⟨q3, fun h => by omega⟩
/-- what a step leaves: it rose at once; or it stays, since the load is not low; or it fell, behind so many ticks; or it waits -/
theorem stp_is {c : Lc} (hc : chkLv c = 0) {st : Ls} (hf : finLv st = true) (n now : Int) :
    (st.l < (stpC c st n now).l ∧ (stpC c st n now).s = now ∧ (stpC c st n now).w = -1 ∧ upL c st.l ≤ n ∧ (stpC c st n now).l ≤ 3 ∧ ((stpC c st n now).l < 3 → n < upL c (stpC c st n now).l)) ∨
    ((st.l < 3 → n < upL c st.l) ∧
      (((st.l = 0 ∨ dnL c st.l ≤ n) ∧ stpC c st n now = ⟨st.l, st.s, -1⟩) ∨
       (0 < st.l ∧ n < dnL c st.l ∧ c.h ≤ now - (if st.w < 0 then now else st.w) ∧ stpC c st n now = ⟨st.l - 1, now, -1⟩) ∨
       (0 < st.l ∧ n < dnL c st.l ∧ now - (if st.w < 0 then now else st.w) < c.h ∧ stpC c st n now = ⟨st.l, st.s, if st.w < 0 then now else st.w⟩))) := by
  obtain ⟨⟨f1, f2⟩, -, -⟩ := finLv_iff.1 hf
  obtain ⟨a, b, d, e⟩ := ris_is c n 3 st.l f1 f2 (by omega)
  unfold stpC
  by_cases h1 : st.l < risL c n 3 st.l
  · rw [if_pos h1]
    exact .inl ⟨h1, rfl, rfl, e h1, b, d⟩
  · rw [if_neg h1]
    have hr : risL c n 3 st.l = st.l := by omega
    rw [hr] at d
    refine .inr ⟨d, ?_⟩
    by_cases h2 : st.l = 0 ∨ dnL c st.l ≤ n
    · rw [if_pos h2]
      exact .inl ⟨h2, rfl⟩
    · rw [if_neg h2]
      have p1 : 0 < st.l := by omega
      have p2 : n < dnL c st.l := by omega
      by_cases h3 : c.h ≤ now - (if st.w < 0 then now else st.w)
      · rw [if_pos h3]
        exact .inr (.inl ⟨p1, p2, h3, rfl⟩)
      · rw [if_neg h3]
        exact .inr (.inr ⟨p1, p2, by omega, rfl⟩)
/-- the state behind t ticks, and how many of the last ones were low -/
def LowIs (st : Ls) (t low : Int) : Prop := finLv st = true ∧ st.s ≤ t ∧ st.w ≤ t ∧ ((st.w = -1 ∧ low = 0) ∨ (1 ≤ st.w ∧ low = t - st.w + 1))
/-- the law's own count -/
def lowN (c : Lc) (st : Ls) (n low : Int) : Int := if 0 < st.l ∧ n < dnL c st.l then low + 1 else 0
theorem low_new : LowIs newLv 0 0 := ⟨rfl, by decide, by decide, .inl ⟨rfl, rfl⟩⟩
theorem low_held {st : Ls} {t low : Int} (h : LowIs st t low) (ht : 0 ≤ t) (ht2 : t < 1099511627776) (c : Lc) (hc : chkLv c = 0) (load : Int) (h0 : 0 ≤ load) : stpL c st load (t + 1) = stpC c st (min 100 load) (t + 1) := by
  obtain ⟨hf, h1, h2, _⟩ := h
  unfold stpL
  rw [if_neg (by rintro (q | q); exact q hc; rw [hf] at q; cases q)]
  have e1 : hldL load 0 100 = min 100 load := by unfold hldL; omega
  have e2 : hldL (t + 1) (max st.s st.w) 1099511627776 = t + 1 := by unfold hldL; omega
  rw [e1, e2]
theorem low_step {c : Lc} (hc : chkLv c = 0) {st : Ls} {t low : Int} (h : LowIs st t low) (ht : 0 ≤ t) (ht2 : t < 1099511627776) {n : Int} {x : Ls} (hx : stpC c st n (t + 1) = x) :
    LowIs x (t + 1) (if x.l = st.l then lowN c st n low else 0) ∧ st.l - 1 ≤ x.l ∧ (x.l < 3 → n < upL c x.l) ∧
    (x.l < st.l → c.h < lowN c st n low ∧ x.s = t + 1) ∧ (st.l < x.l → upL c st.l ≤ n ∧ x.s = t + 1) ∧ (x.l = st.l → 0 < lowN c st n low → lowN c st n low ≤ c.h) := by
  obtain ⟨hf, h1, h2, h3⟩ := h
  obtain ⟨⟨f1, f2⟩, ⟨f3, f4⟩, ⟨f5, f6⟩⟩ := finLv_iff.1 hf
  have hh := (chkLv_ok hc).2.2.2.1
  rcases stp_is hc hf n (t + 1) with ⟨a, b, d, e, f, g⟩ | ⟨g, hr⟩
  · rw [hx] at a b d f g
    refine ⟨⟨finLv_iff.2 (by omega), by omega, by omega, .inl ⟨d, if_neg (by omega)⟩⟩, by omega, g, fun q => by omega, fun _ => ⟨e, b⟩, fun q => by omega⟩
  · rcases hr with ⟨p, q⟩ | ⟨p1, p2, p3, q⟩ | ⟨p1, p2, p3, q⟩
    · rw [hx] at q
      subst q
      have hl : lowN c st n low = 0 := if_neg (by omega)
      refine ⟨⟨finLv_iff.2 (by simp only; omega), by simp only; omega, by simp only; omega, .inl ⟨rfl, by rw [if_pos rfl, hl]⟩⟩, by simp only; omega, fun q => g q, fun q => by simp only at q; omega, fun q => by simp only at q; omega, fun _ q => by omega⟩
    · rw [hx] at q
      subst q
      have hl : lowN c st n low = low + 1 := if_pos ⟨p1, p2⟩
      obtain ⟨u1, u2⟩ := dn_up hc (l := st.l) (by omega) f2
      refine ⟨⟨finLv_iff.2 (by simp only; omega), by simp only; omega, by simp only; omega, .inl ⟨rfl, if_neg (by simp only; omega)⟩⟩, by simp only; omega, fun _ => by simp only; omega, fun _ => ⟨?_, rfl⟩, fun q => by simp only at q; omega, fun q => by simp only at q; omega⟩
      rw [hl]
      rcases h3 with ⟨w1, w2⟩ | ⟨w1, w2⟩
      · rw [if_pos (by omega)] at p3
        omega
      · rw [if_neg (by omega)] at p3
        omega
    · rw [hx] at q
      subst q
      have hl : lowN c st n low = low + 1 := if_pos ⟨p1, p2⟩
      rcases h3 with ⟨w1, w2⟩ | ⟨w1, w2⟩
      · rw [if_pos (by omega)] at p3 ⊢
        refine ⟨⟨finLv_iff.2 (by simp only; omega), by simp only; omega, by simp only; omega, .inr ⟨by simp only; omega, by rw [if_pos rfl, hl]; simp only; omega⟩⟩, by simp only; omega, fun q => g q, fun q => by simp only at q; omega, fun q => by simp only at q; omega, fun _ _ => by rw [hl]; omega⟩
      · rw [if_neg (by omega)] at p3 ⊢
        refine ⟨⟨finLv_iff.2 (by simp only; omega), by simp only; omega, by simp only; omega, .inr ⟨by simp only; omega, by rw [if_pos rfl, hl]; simp only; omega⟩⟩, by simp only; omega, fun q => g q, fun q => by simp only at q; omega, fun q => by simp only at q; omega, fun _ _ => by rw [hl]; omega⟩
/-- with a full load the level is 3 at once -/
theorem full_step {c : Lc} (hc : chkLv c = 0) {st : Ls} (hf : finLv st = true) (now : Int) : (stpC c st 100 now).l = 3 := by
  obtain ⟨⟨f1, f2⟩, -, -⟩ := finLv_iff.1 hf
  obtain ⟨q0, q1, q2, -, r0, r1, r2, -⟩ := chkLv_ok hc
  have hu : ∀ l, upL c l ≤ 100 := by
    intro l
    unfold upL
    split
    · omega
    · split <;> omega
  have hd : ∀ l, dnL c l ≤ 100 := by
    intro l
    unfold dnL
    split
    · omega
    · split <;> omega
  rcases stp_is hc hf 100 now with ⟨a, b, d, e, f, g⟩ | ⟨g, hr⟩
  · have := hu (stpC c st 100 now).l
    by_cases h : (stpC c st 100 now).l < 3
    · have := g h
      omega
    · omega
  · have h3 : st.l = 3 := by
      by_cases h : st.l < 3
      · have := g h
        have := hu st.l
        omega
      · omega
    have hdl := hd st.l
    rcases hr with ⟨p, q⟩ | ⟨p1, p2, p3, q⟩ | ⟨p1, p2, p3, q⟩
    · rw [q]; exact h3
    · omega
    · omega
/-- how many ticks without load it takes at most, till the level is 0 -/
def mesL (c : Lc) (st : Ls) (t : Int) : Int := if st.l = 0 then 0 else (if st.l = 1 then 0 else if st.l = 2 then c.h + 1 else 2 * (c.h + 1)) + (if st.w < 0 then c.h + 1 else max 1 (st.w + c.h - t))
theorem mes_top {c : Lc} (hc : chkLv c = 0) {st : Ls} {t low : Int} (h : LowIs st t low) : mesL c st t ≤ 3 * (c.h + 1) := by
  have hh := (chkLv_ok hc).2.2.2.1
  obtain ⟨hf, h1, h2, h3⟩ := h
  unfold mesL
  split
  · omega
  · split <;> split <;> (try split) <;> omega
theorem mes_zero {c : Lc} (hc : chkLv c = 0) {st : Ls} (hf : finLv st = true) {t : Int} (h : mesL c st t ≤ 0) : st.l = 0 := by
  have hh := (chkLv_ok hc).2.2.2.1
  apply Classical.byContradiction
  intro hn
  unfold mesL at h
  rw [if_neg hn] at h
  revert h
  split <;> split <;> (try split) <;> omega
theorem calm_step {c : Lc} (hc : chkLv c = 0) (hd : 0 < c.d0) {st : Ls} {t low : Int} (h : LowIs st t low) (ht : 0 ≤ t) : mesL c (stpC c st 0 (t + 1)) (t + 1) ≤ max 0 (mesL c st t - 1) := by
  obtain ⟨hf, h1, h2, h3⟩ := h
  obtain ⟨⟨f1, f2⟩, ⟨f3, f4⟩, ⟨f5, f6⟩⟩ := finLv_iff.1 hf
  obtain ⟨⟨u0, -⟩, ⟨u1, -⟩, ⟨u2, -⟩, ⟨hh, -⟩, r0, r1, r2, s1, s2, v1, v2⟩ := chkLv_ok hc
  have hdn : ∀ l, 0 < dnL c l := by
    intro l
    unfold dnL
    split
    · omega
    · split <;> omega
  have hup : ∀ l, 0 < upL c l := by
    intro l
    unfold upL
    split
    · omega
    · split <;> omega
  have hds := hdn st.l
  rcases stp_is hc hf 0 (t + 1) with ⟨a, b, d, e, f, g⟩ | ⟨g, hr⟩
  · have := hup st.l
    omega
  · rcases hr with ⟨p, q⟩ | ⟨p1, p2, p3, q⟩ | ⟨p1, p2, p3, q⟩
    · rw [q]
      have p' : st.l = 0 := by omega
      unfold mesL
      rw [if_pos p']
      omega
    · rw [q]
      have hl : st.l = 1 ∨ st.l = 2 ∨ st.l = 3 := by omega
      unfold mesL
      simp only
      rcases hl with e | e | e <;> rw [e] <;> rcases h3 with ⟨w1, w2⟩ | ⟨w1, w2⟩
      all_goals (first | rw [if_pos (show st.w < 0 by omega)] at p3 ⊢ | rw [if_neg (show ¬ st.w < 0 by omega)] at p3 ⊢)
      all_goals simp
      all_goals omega
    · rw [q]
      have hl : st.l = 1 ∨ st.l = 2 ∨ st.l = 3 := by omega
      unfold mesL
      simp only
      rcases hl with e | e | e <;> rw [e] <;> rcases h3 with ⟨w1, w2⟩ | ⟨w1, w2⟩
      all_goals (first | rw [if_pos (show st.w < 0 by omega)] at p3 ⊢ | rw [if_neg (show ¬ st.w < 0 by omega)] at p3 ⊢)
      all_goals simp
      all_goals omega
end Go.Proofs.Ytjnonngnkkdmdaa
