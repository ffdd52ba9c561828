/- Layer 14, the document's: a token of a source. -/
import Derived.Test.YtpmabkegjdjodaaS14C
namespace Go.Proofs.Ytpmabkegjdjodaa
open Go.RowKit
set_option linter.unusedVariables false
set_option linter.unusedSimpArgs false

theorem tk14_chk {B R : Int} {L : List En} {s now : Int} (h : chkS14 B R L ≠ 0) : tkE14 B R L s now = chkS14 B R L ∧ tkS14 B R L s now = L := by
  unfold tkE14 tkS14
  rw [if_pos h, if_pos h]
  exact ⟨rfl, rfl⟩
theorem tk14_may {B R : Int} {L : List En} {s now : Int} (h : chkS14 B R L = 0) (hm : mayS s = false) : tkE14 B R L s now = 2 ∧ tkS14 B R L s now = L := by
  constructor
  · unfold tkE14
    rw [if_neg (by rw [h]; decide), if_pos hm]
  · unfold tkS14
    rw [if_neg (by rw [h]; decide), if_pos hm]
theorem tk14_full {B R : Int} {L : List En} {s now : Int} (h : chkS14 B R L = 0) (hm : mayS s = true) (hf : getS (clnS B R L now) s = none ∧ 8 ≤ (clnS B R L now).length) : tkE14 B R L s now = 7 ∧ tkS14 B R L s now = clnS B R L now := by
  have e : tkE14 B R L s now = 7 := by
    unfold tkE14
    rw [if_neg (by rw [h]; decide), if_neg (by rw [hm]; decide), if_pos hf]
  refine ⟨e, ?_⟩
  unfold tkS14
  rw [if_neg (by rw [h]; decide), if_neg (by rw [hm]; decide), if_pos (by rw [e]; decide)]
theorem tk14_spent {B R : Int} {L : List En} {s now : Int} (h : chkS14 B R L = 0) (hm : mayS s = true) (hf : ¬ (getS (clnS B R L now) s = none ∧ 8 ≤ (clnS B R L now).length)) (ht : tkB B R (bukS B (clnS B R L now) s now).1 (bukS B (clnS B R L now) s now).2 now 1 = false) : tkE14 B R L s now = 14 ∧ tkS14 B R L s now = clnS B R L now := by
  have e : tkE14 B R L s now = 14 := by
    unfold tkE14
    rw [if_neg (by rw [h]; decide), if_neg (by rw [hm]; decide), if_neg hf, if_pos ht]
  refine ⟨e, ?_⟩
  unfold tkS14
  rw [if_neg (by rw [h]; decide), if_neg (by rw [hm]; decide), if_pos (by rw [e]; decide)]
theorem tk14_ok {B R : Int} {L : List En} {s now : Int} (h : chkS14 B R L = 0) (hm : mayS s = true) (hf : ¬ (getS (clnS B R L now) s = none ∧ 8 ≤ (clnS B R L now).length)) (ht : tkB B R (bukS B (clnS B R L now) s now).1 (bukS B (clnS B R L now) s now).2 now 1 = true) :
    tkE14 B R L s now = 0 ∧ tkS14 B R L s now = putS14 (clnS B R L now) s (tkT B R (bukS B (clnS B R L now) s now).1 (bukS B (clnS B R L now) s now).2 now 1, tkA B R (bukS B (clnS B R L now) s now).1 (bukS B (clnS B R L now) s now).2 now 1) := by
  have e : tkE14 B R L s now = 0 := by
    unfold tkE14
    rw [if_neg (by rw [h]; decide), if_neg (by rw [hm]; decide), if_neg hf, if_neg (by rw [ht]; decide)]
  refine ⟨e, ?_⟩
  unfold tkS14
  rw [if_neg (by rw [h]; decide), if_neg (by rw [hm]; decide), if_neg (by rw [e]; decide)]
/-- the cut that the two parts make -/
theorem cut_ex {L : List En} (ha : L.Pairwise (fun a b => a.1 < b.1)) (s : Int) : Cut14 L s (lowS L s).length := by
  have hk : (lowS L s).length ≤ L.length := List.length_filter_le _ _
  obtain ⟨k, hk1, hk2, hk3⟩ : ∃ k, k ≤ L.length ∧ (∀ j (hj : j < L.length), j < k → L[j].1 < s) ∧ (∀ h : k < L.length, ¬ L[k].1 < s) := by
    have key : ∀ n, n ≤ L.length → (∀ j (hj : j < L.length), j < n → L[j].1 < s) ∨ ∃ k, k < n ∧ (∀ j (hj : j < L.length), j < k → L[j].1 < s) ∧ (∀ h : k < L.length, ¬ L[k].1 < s) := by
      intro n
      induction n with
      | zero => intro _; exact .inl (fun j _ h => by omega)
      | succ n ih =>
        intro hn
        rcases ih (by omega) with h | ⟨k, h1, h2, h3⟩
        · by_cases hs : (L[n]'(by omega)).1 < s
          · refine .inl (fun j hj hjn => ?_)
            by_cases e : j = n
            · subst e; exact hs
            · exact h j hj (by omega)
          · exact .inr ⟨n, by omega, h, fun _ => hs⟩
        · exact .inr ⟨k, by omega, h2, h3⟩
    rcases key L.length (Nat.le_refl _) with h | ⟨k, h1, h2, h3⟩
    · exact ⟨L.length, Nat.le_refl _, h, fun h => absurd h (by omega)⟩
    · exact ⟨k, by omega, h2, h3⟩
  have hc := cut_of ha hk1 hk2 hk3
  rw [hc.len]
  exact hc
theorem isR_none {α : Type} {z : Nat} {cs : α → List Value} (w : World) (p : Addr) (cap : Nat) : IsR z cs w (.slice (some p) 0 cap) ([] : List α) := ⟨some p, cap, rfl, (fun h => by cases h), fun j hj => by cases hj⟩
theorem Cut14.hi {L : List En} {s : Int} {k : Nat} (h : Cut14 L s k) : ((getS L s).isSome = true → k < L.length ∧ higS L s = L.drop (k + 1)) ∧ ((getS L s).isSome = false → higS L s = L.drop k) := by
  by_cases q : ∃ hk : k < L.length, L[k].1 = s
  · obtain ⟨hk, hs⟩ := q
    obtain ⟨a, b⟩ := h.is hk hs
    rw [a]
    exact ⟨fun _ => ⟨hk, b⟩, fun hn => Bool.noConfusion hn⟩
  · obtain ⟨a, b⟩ := h.no (fun hk hs => q ⟨hk, hs⟩)
    rw [a]
    exact ⟨fun hn => Bool.noConfusion hn, fun _ => b⟩
set_option maxRecDepth 100000 in
set_option maxHeartbeats 8000000 in
theorem rftake14_any (B R : Int) (v : Value) (L : List En) (s now : Int) (w : World) (hv : IsR 3 enC w v L) (hl : L.length ≤ 1000000) :
    Calls Try.prog 9 #[twV B R, v, .int .i64 s, .int .i64 now] w fun e w' => ∃ v', e = .returned (.tuple #[v', .int .i64 (tkE14 B R L s now)]) ∧ IsR 3 enC w' v' (tkS14 B R L s now) ∧ Below w.heap.size w w' := by
  have HV := Lib.hid hv
  obtain ⟨p, cap, rfl, -, hp⟩ := hv
  clear hp
  have c0 := Lib.hid (fun W (hb : Below w.heap.size w W) => rfcheck14_any B R _ L W (HV.out.call hb) hl)
  have cM := Lib.hid (fun W => rfmay_any s W)
  have X0 : Hid (∀ t, Bx2 (w.alloc (.cells #[.int .i64 B, .int .i64 R] t)) w.heap.size B R) := Lib.hid (fun t => by simp [Bx2, go_sem])
  by_cases hc : chkS14 B R L = 0
  case neg =>
    obtain ⟨q1, q2⟩ := tk14_chk (s := s) (now := now) hc
    have HQ := Lib.hid (And.intro q1 q2)
    have e0 : (chkS14 B R L != 0) = true := by simp [hc]
    generalize chkS14 B R L = E at c0 e0 HQ
    simp only [twV] at *
    clear hc q1 q2
    go_enter Try.func9, Try.ntmps9
    go_wp2_with fail
    refine (c0.out _ (by (repeat (first | (with_reducible exact Below.refl _ _) | ((with_reducible refine below_alloc ?_ ?_ _); · (first | omega | (simp; done) | (simp; omega))) | ((with_reducible refine below_setCell ?_ ?_ _); · (first | omega | (simp; done) | (simp; omega))) | (with_reducible refine Below.drew ?_) | (with_reducible refine below_drewN ?_ _) | ((with_reducible refine below_call (by assumption) ?_ ?_); · (first | omega | (simp; done) | (simp; omega))))))).mono ?_; rintro e w1 ⟨rfl, hb1⟩
    have B1 : Below w.heap.size w w1 := by (repeat (first | (with_reducible exact Below.refl _ _) | ((with_reducible refine below_alloc ?_ ?_ _); · (first | omega | (simp; done) | (simp; omega))) | ((with_reducible refine below_setCell ?_ ?_ _); · (first | omega | (simp; done) | (simp; omega))) | (with_reducible refine Below.drew ?_) | (with_reducible refine below_drewN ?_ _) | ((with_reducible refine below_call (by assumption) ?_ ?_); · (first | omega | (simp; done) | (simp; omega)))))
    obtain ⟨x0, x1⟩ := (X0.out _).call hb1
    go_wp2_with fail
    refine (c0.out _ B1).mono ?_; rintro e w2 ⟨rfl, hb2⟩
    have B2 : Below w.heap.size w w2 := B1.trans (hb2.mono B1.size)
    go_wp2
    go_ret2
    exact ⟨_, by rw [HQ.out.1]; rfl, by rw [HQ.out.2]; exact HV.out.call B2, B2⟩
  cases hm : mayS s with
  | false =>
    have HQ := Lib.hid (tk14_may (now := now) hc hm)
    rw [hc] at c0
    rw [hm] at cM
    simp only [twV] at *
    clear hc hm
    go_enter Try.func9, Try.ntmps9
    go_wp2_with fail
    refine (c0.out _ (by (repeat (first | (with_reducible exact Below.refl _ _) | ((with_reducible refine below_alloc ?_ ?_ _); · (first | omega | (simp; done) | (simp; omega))) | ((with_reducible refine below_setCell ?_ ?_ _); · (first | omega | (simp; done) | (simp; omega))) | (with_reducible refine Below.drew ?_) | (with_reducible refine below_drewN ?_ _) | ((with_reducible refine below_call (by assumption) ?_ ?_); · (first | omega | (simp; done) | (simp; omega))))))).mono ?_; rintro e w1 ⟨rfl, hb1⟩
    have B1 : Below w.heap.size w w1 := by (repeat (first | (with_reducible exact Below.refl _ _) | ((with_reducible refine below_alloc ?_ ?_ _); · (first | omega | (simp; done) | (simp; omega))) | ((with_reducible refine below_setCell ?_ ?_ _); · (first | omega | (simp; done) | (simp; omega))) | (with_reducible refine Below.drew ?_) | (with_reducible refine below_drewN ?_ _) | ((with_reducible refine below_call (by assumption) ?_ ?_); · (first | omega | (simp; done) | (simp; omega)))))
    go_wp2_with fail
    refine (cM.out _).mono ?_; rintro e w2 ⟨rfl, rfl⟩
    go_wp2
    go_ret2
    exact ⟨_, by rw [HQ.out.1]; rfl, by rw [HQ.out.2]; exact HV.out.call B1, B1⟩
  | true =>
  have cC := Lib.hid (fun W (hb : Below w.heap.size w W) => rfclean_own B R _ L now W (HV.out.call hb) hl hc)
  have hcc := cln_chk hc now
  have h8 := (chk_iff.1 hcc).2.1
  have HA := Lib.hid (chk_iff.1 hcc).2.2.2
  have HF := Lib.hid (fun h => tk14_full (L := L) (now := now) hc hm h)
  have HS := Lib.hid (fun h => tk14_spent (L := L) (now := now) hc hm h)
  have HK := Lib.hid (fun h => tk14_ok (L := L) (now := now) hc hm h)
  rw [hc] at c0
  rw [hm] at cM
  generalize clnS B R L now = C at cC h8 HA HF HS HK
  have cO := Lib.hid (fun v W (hv : IsR 3 enC W v C) => rfof_any B R v C s now W hv (by omega) HA.out)
  have HC := Lib.hid (cut_ex HA.out s)
  have cT := Lib.hid (fun W => bdtake_any B R (bukS B C s now).1 (bukS B C s now).2 now 1 W)
  have hkl := HC.out.le
  generalize hkk : (lowS C s).length = k at cO HC hkl
  generalize (bukS B C s now).1 = T at cO cT HS HK
  generalize (bukS B C s now).2 = A at cO cT HS HK
  have hcap : ∀ (w1 : World) (B1 : Nat) (v1 : Value), OwnR 67 3 enC w1 B1 v1 C → ∃ p1 c1, v1 = .slice p1 C.length c1 ∧ C.length ≤ c1 ∧ ((p1 = none ∧ C = [] ∧ c1 = 0) ∨ ∃ g, p1 = some ⟨g, 0, none⟩) := by
    intro w1 B1 v1 h
    rcases h.2 with ⟨h2, h3⟩ | ⟨g, cp, cur, h2, _, _, h3, _⟩
    · exact ⟨none, 0, by rw [h2, h3], by omega, .inl ⟨rfl, List.eq_nil_of_length_eq_zero h3, rfl⟩⟩
    · exact ⟨_, cp, h2, h3, .inr ⟨g, rfl⟩⟩
  have Hcap := Lib.hid hcap
  simp only [twV] at *
  clear hc hm hcc hcap
  have hkk2 := hkk
  clear hkk
  go_enter Try.func9, Try.ntmps9
  go_wp2_with fail
  refine (c0.out _ (by (repeat (first | (with_reducible exact Below.refl _ _) | ((with_reducible refine below_alloc ?_ ?_ _); · (first | omega | (simp; done) | (simp; omega))) | ((with_reducible refine below_setCell ?_ ?_ _); · (first | omega | (simp; done) | (simp; omega))) | (with_reducible refine Below.drew ?_) | (with_reducible refine below_drewN ?_ _) | ((with_reducible refine below_call (by assumption) ?_ ?_); · (first | omega | (simp; done) | (simp; omega))))))).mono ?_; rintro e w1 ⟨rfl, hb1⟩
  have B1 : Below w.heap.size w w1 := by (repeat (first | (with_reducible exact Below.refl _ _) | ((with_reducible refine below_alloc ?_ ?_ _); · (first | omega | (simp; done) | (simp; omega))) | ((with_reducible refine below_setCell ?_ ?_ _); · (first | omega | (simp; done) | (simp; omega))) | (with_reducible refine Below.drew ?_) | (with_reducible refine below_drewN ?_ _) | ((with_reducible refine below_call (by assumption) ?_ ?_); · (first | omega | (simp; done) | (simp; omega)))))
  have X1 := (X0.out _).call hb1
  obtain ⟨x0, x1⟩ := id X1
  go_wp2_with fail
  refine (cM.out _).mono ?_; rintro e w2 ⟨rfl, rfl⟩
  go_wp2_with fail
  refine (cC.out _ B1).mono ?_; rintro e w3 ⟨v3, rfl, ho3, hb3⟩
  obtain ⟨p3, c3, rfl, hc3, hg3⟩ := Hcap.out _ _ _ ho3
  have HO3 := Lib.hid (ho3.reads enC_len)
  have B3 := B1.trans (hb3.mono B1.size)
  have X3 := X1.call hb3
  obtain ⟨y0, y1⟩ := id X3
  have hz3 : w.heap.size + 1 ≤ w3.heap.size := X3.lt
  clear x0 x1 X1 ho3 X0
  go_wp2_with fail
  refine (cO.out _ _ HO3.out).mono ?_; rintro e w4 ⟨rfl, hb4⟩
  have B4 := B3.trans (hb4.mono B3.size)
  have X4 := X3.call hb4
  obtain ⟨z0, z1⟩ := id X4
  have hz4 : w.heap.size + 1 ≤ w4.heap.size := X4.lt
  have hn4 : w.heap.size ≠ w4.heap.size := by omega
  have hl4 : w.heap.size < w4.heap.size := by omega
  have HO4 := Lib.hid (HO3.out.call hb4)
  clear y0 y1 X3
  by_cases hfull : getS C s = none ∧ 8 ≤ C.length
  · have HQ := Lib.hid (HF.out hfull)
    have hi : (getS C s).isSome = false := by rw [hfull.1]; rfl
    have h8' : (8 : Int) ≤ C.length := by omega
    clear HF HS HK
    rw [hi]
    go_wp2
    go_ret2
    exact ⟨_, by rw [HQ.out.1]; rfl, by rw [HQ.out.2]; exact HO4.out.call (by (repeat (first | (with_reducible exact Below.refl _ _) | ((with_reducible refine below_alloc ?_ ?_ _); · (first | omega | (simp; done) | (simp; omega))) | ((with_reducible refine below_setCell ?_ ?_ _); · (first | omega | (simp; done) | (simp; omega))) | (with_reducible refine Below.drew ?_) | (with_reducible refine below_drewN ?_ _) | ((with_reducible refine below_call (by assumption) ?_ ?_); · (first | omega | (simp; done) | (simp; omega)))))), by (repeat (first | (with_reducible exact Below.refl _ _) | ((with_reducible refine below_alloc ?_ ?_ _); · (first | omega | (simp; done) | (simp; omega))) | ((with_reducible refine below_setCell ?_ ?_ _); · (first | omega | (simp; done) | (simp; omega))) | (with_reducible refine Below.drew ?_) | (with_reducible refine below_drewN ?_ _) | ((with_reducible refine below_call (by assumption) ?_ ?_); · (first | omega | (simp; done) | (simp; omega)))))⟩
  have h8' : (getS C s).isSome = true ∨ ¬ (8 : Int) ≤ C.length := by
    cases h : getS C s with
    | some e => exact .inl rfl
    | none => exact .inr (fun q => hfull ⟨h, by omega⟩)
  have HS2 := Lib.hid (HS.out hfull)
  have HK2 := Lib.hid (HK.out hfull)
  clear HF HS HK
  generalize hT : tkT B R T A now 1 = T2 at cT HK2
  generalize hA : tkA B R T A now 1 = A2 at cT HK2
  generalize hB : tkB B R T A now 1 = ok at cT HS2 HK2
  clear hT hA hB
  cases ok with
  | false =>
    have HQ := Lib.hid (HS2.out rfl)
    clear HS2 HK2
    rcases h8' with hi | hi
    · rw [hi]
      go_wp2_with fail
      refine (cT.out _).mono ?_; rintro e w5 ⟨rfl, hb5⟩
      have B45 : Below w4.heap.size w4 w5 := by (repeat (first | (with_reducible exact Below.refl _ _) | ((with_reducible refine below_alloc ?_ ?_ _); · (first | omega | (simp; done) | (simp; omega))) | ((with_reducible refine below_setCell ?_ ?_ _); · (first | omega | (simp; done) | (simp; omega))) | (with_reducible refine Below.drew ?_) | (with_reducible refine below_drewN ?_ _) | ((with_reducible refine below_call (by assumption) ?_ ?_); · (first | omega | (simp; done) | (simp; omega)))))
      have B5 : Below w.heap.size w w5 := B4.trans (B45.mono B4.size)
      have z45 := B45.size
      have z5 := B5.size
      go_wp2
      go_ret2
      exact ⟨_, by rw [HQ.out.1]; rfl, by rw [HQ.out.2]; exact HO4.out.call (below_alloc z45 B45 _), below_alloc z5 B5 _⟩
    · generalize (getS C s).isSome = is
      cases is
      · go_wp2_with fail
        refine (cT.out _).mono ?_; rintro e w5 ⟨rfl, hb5⟩
        have B45 : Below w4.heap.size w4 w5 := by (repeat (first | (with_reducible exact Below.refl _ _) | ((with_reducible refine below_alloc ?_ ?_ _); · (first | omega | (simp; done) | (simp; omega))) | ((with_reducible refine below_setCell ?_ ?_ _); · (first | omega | (simp; done) | (simp; omega))) | (with_reducible refine Below.drew ?_) | (with_reducible refine below_drewN ?_ _) | ((with_reducible refine below_call (by assumption) ?_ ?_); · (first | omega | (simp; done) | (simp; omega)))))
        have B5 : Below w.heap.size w w5 := B4.trans (B45.mono B4.size)
        have z45 := B45.size
        have z5 := B5.size
        go_wp2
        go_ret2
        exact ⟨_, by rw [HQ.out.1]; rfl, by rw [HQ.out.2]; exact HO4.out.call (below_alloc z45 B45 _), below_alloc z5 B5 _⟩
      · go_wp2_with fail
        refine (cT.out _).mono ?_; rintro e w5 ⟨rfl, hb5⟩
        have B45 : Below w4.heap.size w4 w5 := by (repeat (first | (with_reducible exact Below.refl _ _) | ((with_reducible refine below_alloc ?_ ?_ _); · (first | omega | (simp; done) | (simp; omega))) | ((with_reducible refine below_setCell ?_ ?_ _); · (first | omega | (simp; done) | (simp; omega))) | (with_reducible refine Below.drew ?_) | (with_reducible refine below_drewN ?_ _) | ((with_reducible refine below_call (by assumption) ?_ ?_); · (first | omega | (simp; done) | (simp; omega)))))
        have B5 : Below w.heap.size w w5 := B4.trans (B45.mono B4.size)
        have z45 := B45.size
        have z5 := B5.size
        go_wp2
        go_ret2
        exact ⟨_, by rw [HQ.out.1]; rfl, by rw [HQ.out.2]; exact HO4.out.call (below_alloc z45 B45 _), below_alloc z5 B5 _⟩
  | true =>
  have HQ := Lib.hid (HK2.out rfl)
  have HI := Lib.hid HC.out.hi
  have hlo := Lib.hid HC.out.lo
  clear HS2 HK2
  generalize (getS C s).isSome = is at h8' HI
  cases is with
  | true =>
    obtain ⟨hkk3, hhi⟩ := HI.out.1 rfl
    have HH := Lib.hid hhi
    obtain ⟨g, rfl⟩ : ∃ g, p3 = some ⟨g, 0, none⟩ := by
      rcases hg3 with ⟨_, q, _⟩ | q
      · rw [q] at hkk3; simp at hkk3
      · exact q
    clear hhi h8' hg3
    have hk3 : (k : Int) ≤ (c3 : Nat) := by omega
    go_wp2_with fail
    refine (cT.out _).mono ?_; rintro e w5 ⟨rfl, hb5⟩
    have B45 : Below w4.heap.size w4 w5 := by (repeat (first | (with_reducible exact Below.refl _ _) | ((with_reducible refine below_alloc ?_ ?_ _); · (first | omega | (simp; done) | (simp; omega))) | ((with_reducible refine below_setCell ?_ ?_ _); · (first | omega | (simp; done) | (simp; omega))) | (with_reducible refine Below.drew ?_) | (with_reducible refine below_drewN ?_ _) | ((with_reducible refine below_call (by assumption) ?_ ?_); · (first | omega | (simp; done) | (simp; omega)))))
    have B5 : Below w.heap.size w w5 := B4.trans (B45.mono B4.size)
    have z45 := B45.size
    have z5 := B5.size
    have HO5 := Lib.hid (HO4.out.call B45)
    clear z0 z1 X4
    go_upto_region 13 with fail
    refine gen_world (F := fun W => (W.cell? ⟨w5.heap.size, 0, none⟩ = some (.int .i64 T2) ∧ W.cell? ⟨w5.heap.size, 1, none⟩ = some (.int .i64 A2)) ∧ Below w.heap.size w W ∧ IsR 3 enC W (.slice (some ⟨g, 0, none⟩) C.length c3) C) ⟨by simp [go_sem], below_alloc z5 B5 _, HO5.out.call (below_alloc (Nat.le_refl _) (Below.refl _ _) _)⟩ (fun wt hF => ?_)
    obtain ⟨hX, hBt, hIt⟩ := hF
    have HIt := Lib.hid hIt
    have hout : Hid (∀ W, Below wt.heap.size wt W → W.cell? ⟨w5.heap.size, 0, none⟩ = some (.int .i64 T2) ∧ W.cell? ⟨w5.heap.size, 1, none⟩ = some (.int .i64 A2)) := Lib.hid (fun W hb => Bx2.call hX hb)
    have IPRE : ∀ W, Below wt.heap.size wt W → IsR 3 enC W (.slice (some ⟨g, 0, none⟩) k c3) (C.take k) := fun W hb => by have := isR_sub (i := 0) (n := k) (cap := c3) (HIt.out.call hb).cut (by omega) rfl; simpa using this
    clear hX hIt
    have hT0 : Below wt.heap.size wt wt.drew := Below.drew (Below.refl _ _)
    go_cut [15] (fun po wx => ∃ p5 c5, po = .slice p5 (([] ++ C.take k) ++ [((s, T2, A2) : En)]).length c5 ∧ OwnR 67 3 enC wx wt.heap.size (.slice p5 (([] ++ C.take k) ++ [((s, T2, A2) : En)]).length c5) (([] ++ C.take k) ++ [((s, T2, A2) : En)]) ∧ Below wt.heap.size wt wx)
    case first =>
      refine wp_region_held_drew (S := fun W => W.cell? ⟨w5.heap.size, 0, none⟩ = some (.int .i64 T2) ∧ W.cell? ⟨w5.heap.size, 1, none⟩ = some (.int .i64 A2)) (by kernel_rfl) (hout.out _ (by assumption)) (fun hHeld => ?_)
      (refine wpAnyH_take (i := 0) (v := ?_) rfl (by kernel_rfl) (by kernel_rfl) (by kernel_rfl) (fun _ _ _ h => h) (Or.inl ⟨by rfl, ?_⟩) (by assumption) ?_; rotate_left 1; (focus (intro wz hz; (try dsimp only at hz); (try simp only [List.getElem_toArray, List.getElem_cons_succ, List.getElem_cons_zero]); go_simp; (try (rw [if_neg (by (try simp only [ByteArray.size_append]); omega)])); try (with_reducible rfl); done)))
      try simp only [Act.put, List.getElem_toArray, List.getElem_cons_succ, List.getElem_cons_zero, List.setIfInBounds_toArray, List.set_cons_zero, List.set_cons_succ]
      (refine wpAnyH_take (i := 1) (v := ?_) rfl (by kernel_rfl) (by kernel_rfl) (by kernel_rfl) (fun _ _ _ h => h) (Or.inl ⟨by rfl, ?_⟩) (by assumption) ?_; rotate_left 1; (focus (intro wz hz; (try dsimp only at hz); (try simp only [List.getElem_toArray, List.getElem_cons_succ, List.getElem_cons_zero]); go_simp; (try (rw [if_neg (by (try simp only [ByteArray.size_append]); omega)])); try (with_reducible rfl); done)))
      try simp only [Act.put, List.getElem_toArray, List.getElem_cons_succ, List.getElem_cons_zero, List.setIfInBounds_toArray, List.set_cons_zero, List.set_cons_succ]
      (refine wpAnyH_take (i := 2) (v := ?_) rfl (by kernel_rfl) (by kernel_rfl) (by kernel_rfl) (fun _ _ _ h => h) (Or.inl ⟨by rfl, ?_⟩) (by assumption) ?_; rotate_left 1; (focus (intro wz hz; (try dsimp only at hz); (try simp only [List.getElem_toArray, List.getElem_cons_succ, List.getElem_cons_zero]); go_simp; (try (rw [if_neg (by (try simp only [ByteArray.size_append]); omega)])); try (with_reducible rfl); done)))
      try simp only [Act.put, List.getElem_toArray, List.getElem_cons_succ, List.getElem_cons_zero, List.setIfInBounds_toArray, List.set_cons_zero, List.set_cons_succ]
      (refine wpAnyH_take (i := 5) (v := ?_) rfl (by kernel_rfl) (by kernel_rfl) (by kernel_rfl) (fun _ _ _ h => h) (Or.inl ⟨by rfl, ?_⟩) (by assumption) ?_; rotate_left 1; (focus (intro wz hz; (try dsimp only at hz); (try simp only [List.getElem_toArray, List.getElem_cons_succ, List.getElem_cons_zero]); go_simp; (try (rw [if_neg (by (try simp only [ByteArray.size_append]); omega)])); try (with_reducible rfl); done)))
      try simp only [Act.put, List.getElem_toArray, List.getElem_cons_succ, List.getElem_cons_zero, List.setIfInBounds_toArray, List.set_cons_zero, List.set_cons_succ]
      (refine wpAnyH_take (i := 6) (v := ?_) rfl (by kernel_rfl) (by kernel_rfl) (by kernel_rfl) (fun _ _ _ h => h) (Or.inl ⟨by rfl, ?_⟩) (by assumption) ?_; rotate_left 1; (focus (intro wz hz; (try dsimp only at hz); (try simp only [List.getElem_toArray, List.getElem_cons_succ, List.getElem_cons_zero]); go_simp; (try (rw [if_neg (by (try simp only [ByteArray.size_append]); omega)])); try (with_reducible rfl); done)))
      try simp only [Act.put, List.getElem_toArray, List.getElem_cons_succ, List.getElem_cons_zero, List.setIfInBounds_toArray, List.set_cons_zero, List.set_cons_succ]
      (refine wpAnyH_take (i := 3) (v := ?_) rfl (by kernel_rfl) (by kernel_rfl) (by kernel_rfl) (fun _ _ _ h => h) (Or.inl ⟨by rfl, ?_⟩) (by assumption) ?_; rotate_left 1; (focus (intro wz hz; (try dsimp only at hz); (try simp only [List.getElem_toArray, List.getElem_cons_succ, List.getElem_cons_zero]); go_simp; (try (rw [if_neg (by (try simp only [ByteArray.size_append]); omega)])); try (with_reducible rfl); done)))
      try simp only [Act.put, List.getElem_toArray, List.getElem_cons_succ, List.getElem_cons_zero, List.setIfInBounds_toArray, List.set_cons_zero, List.set_cons_succ]
      (refine wpAnyH_take (i := 7) (v := ?_) rfl (by kernel_rfl) (by kernel_rfl) (by kernel_rfl) (fun _ _ _ h => h) (Or.inl ⟨by rfl, ?_⟩) (by assumption) ?_; rotate_left 1; (focus (intro wz hz; (try dsimp only at hz); (try simp only [List.getElem_toArray, List.getElem_cons_succ, List.getElem_cons_zero]); go_simp; (try (rw [if_neg (by (try simp only [ByteArray.size_append]); omega)])); try (with_reducible rfl); done)))
      try simp only [Act.put, List.getElem_toArray, List.getElem_cons_succ, List.getElem_cons_zero, List.setIfInBounds_toArray, List.set_cons_zero, List.set_cons_succ]
      refine wpAnyH_ready (rs := [4, 8]) (by kernel_rfl) (by simp) ?_
      refine AllReadyH.cons rfl (fun K hK => ?_) (AllReadyH.cons rfl (fun K hK => ?_) AllReadyH.nil)
      · ((try simp only [List.getElem_toArray, List.getElem_cons_succ, List.getElem_cons_zero]); rw [if_pos (by rfl)]; refine wp_app_row lays_ren enC_len enC_one (.tmp 61) (.tmp 64) rfl wt.heap.size [] (C.take k) (.slice none 0 0) (.slice (some ⟨g, 0, none⟩) k c3) (by simp [Act.eval, Act.put]) (OwnR.nil _ _ _ _ _) (by simp [Act.eval, Act.put]) (IPRE _ (by (repeat (first | (with_reducible exact Below.refl _ _) | ((with_reducible refine below_alloc ?_ ?_ _); · (first | omega | (simp; done) | (simp; omega))) | ((with_reducible refine below_setCell ?_ ?_ _); · (first | omega | (simp; done) | (simp; omega))) | (with_reducible refine Below.drew ?_) | (with_reducible refine below_drewN ?_ _) | ((with_reducible refine below_call (by assumption) ?_ ?_); · (first | omega | (simp; done) | (simp; omega))))))) (by first | omega | (simp; done) | (simp; omega)) (by first | omega | (simp; done) | (simp; omega)) ?_; intro v6 w6 ho6 _ hg6; have hb6 := Below.grown (Below.refl _ _) hg6 (Nat.le_refl _) (fun j hj => by simp [Value.ownBlock] at hj); have b6 : Below wt.heap.size wt w6 := Below.trans (show Below wt.heap.size wt _ by first | exact hT0 | exact below_alloc (show wt.heap.size ≤ wt.drew.heap.size from Nat.le_refl _) hT0 _) (hb6.mono (by simp)); have z6 := b6.size; obtain ⟨p6, c6, rfl⟩ := ho6.form; clear hHeld; refine hK.out _ _ (hout.out _ b6) (fun hHeld => ?_); clear hK K)
        try simp only [Act.put, List.getElem_toArray, List.getElem_cons_succ, List.getElem_cons_zero, List.setIfInBounds_toArray, List.set_cons_zero, List.set_cons_succ]
        (refine wpAnyH_ready (rs := [8]) (by kernel_rfl) (by simp) ?_; refine AllReadyH.cons rfl (fun K hK => ?_) AllReadyH.nil; (try simp only [List.getElem_toArray, List.getElem_cons_succ, List.getElem_cons_zero]); skip; go_simp; refine hK.out _ _ (hout.out _ (by first | exact below_alloc b6.size b6 _ | exact below_alloc (show wt.heap.size ≤ wt.drew.heap.size from Nat.le_refl _) hT0 _)) (fun hHeld => ?_); clear hK K)
        try simp only [Act.put, List.getElem_toArray, List.getElem_cons_succ, List.getElem_cons_zero, List.setIfInBounds_toArray, List.set_cons_zero, List.set_cons_succ]
        (refine wpAnyH_ready (rs := [9]) (by kernel_rfl) (by simp) ?_; refine AllReadyH.cons rfl (fun K hK => ?_) AllReadyH.nil; (try simp only [List.getElem_toArray, List.getElem_cons_succ, List.getElem_cons_zero]); rw [if_pos (by rfl)]; (first | refine wp_app_row lays_ren enC_len enC_one (.tmp 65) (.tmp 69) rfl wt.heap.size ([] ++ C.take k) [((s, T2, A2) : En)] (.slice p6 ([] ++ C.take k).length c6) (.slice (some ⟨w6.heap.size, 0, none⟩) 1 1) (by simp [Act.eval, Act.put, Nat.min_eq_left hkl]) (ho6.alloc _) (by simp [Act.eval, Act.put]) (isR_one w6 _ _ 1 rfl rfl) (by first | omega | (simp; done) | (simp; omega)) (by first | omega | (simp; done) | (simp; omega)) ?_ | refine wp_app_row lays_ren enC_len enC_one (.tmp 65) (.tmp 69) rfl wt.heap.size ([] ++ C.take k) [((s, T2, A2) : En)] (.slice p6 ([] ++ C.take k).length c6) (.slice (some ⟨wt.heap.size, 0, none⟩) 1 1) (by simp [Act.eval, Act.put, Nat.min_eq_left hkl]) ho6 (by simp [Act.eval, Act.put]) ((isR_one (z := 3) (cs := enC) wt.drew ((s, T2, A2) : En) _ 1 rfl rfl).call hb6) (by first | omega | (simp; done) | (simp; omega)) (by first | omega | (simp; done) | (simp; omega)) ?_); intro v7 w7 ho7 hb7 _; obtain ⟨p7, c7, rfl⟩ := ho7.form; have b7 : Below wt.heap.size wt w7 := Below.trans (show Below wt.heap.size wt _ by first | exact b6 | exact below_alloc z6 b6 _) hb7; clear hHeld; refine hK.out _ _ (hout.out _ b7) (fun hHeld => ?_); clear hK K)
        try simp only [Act.put, List.getElem_toArray, List.getElem_cons_succ, List.getElem_cons_zero, List.setIfInBounds_toArray, List.set_cons_zero, List.set_cons_succ]
        (refine wpAnyH_take (i := 10) (v := ?_) rfl (by kernel_rfl) (by kernel_rfl) (by kernel_rfl) (fun _ _ _ h => h) (Or.inl ⟨by rfl, ?_⟩) (by assumption) ?_; rotate_left 1; (focus (intro wz hz; (try dsimp only at hz); (try simp only [List.getElem_toArray, List.getElem_cons_succ, List.getElem_cons_zero]); go_simp; (try (rw [if_neg (by (try simp only [ByteArray.size_append]); omega)])); try (with_reducible rfl); done)))
        try simp only [Act.put, List.getElem_toArray, List.getElem_cons_succ, List.getElem_cons_zero, List.setIfInBounds_toArray, List.set_cons_zero, List.set_cons_succ]
        refine wpAnyH_done (by kernel_rfl) ?_ _
        go_wp2_with fail; go_meet; exact ⟨p7, c7, by first | rfl | (simp; done) | (simp [Nat.min_eq_left hkl]; done), ho7, b7⟩
      · ((try simp only [List.getElem_toArray, List.getElem_cons_succ, List.getElem_cons_zero]); skip; go_simp; refine hK.out _ _ (hout.out _ (by first | exact below_alloc b6.size b6 _ | exact below_alloc (show wt.heap.size ≤ wt.drew.heap.size from Nat.le_refl _) hT0 _)) (fun hHeld => ?_); clear hK K)
        try simp only [Act.put, List.getElem_toArray, List.getElem_cons_succ, List.getElem_cons_zero, List.setIfInBounds_toArray, List.set_cons_zero, List.set_cons_succ]
        (refine wpAnyH_ready (rs := [4]) (by kernel_rfl) (by simp) ?_; refine AllReadyH.cons rfl (fun K hK => ?_) AllReadyH.nil; (try simp only [List.getElem_toArray, List.getElem_cons_succ, List.getElem_cons_zero]); rw [if_pos (by rfl)]; refine wp_app_row lays_ren enC_len enC_one (.tmp 61) (.tmp 64) rfl wt.heap.size [] (C.take k) (.slice none 0 0) (.slice (some ⟨g, 0, none⟩) k c3) (by simp [Act.eval, Act.put]) (OwnR.nil _ _ _ _ _) (by simp [Act.eval, Act.put]) (IPRE _ (by (repeat (first | (with_reducible exact Below.refl _ _) | ((with_reducible refine below_alloc ?_ ?_ _); · (first | omega | (simp; done) | (simp; omega))) | ((with_reducible refine below_setCell ?_ ?_ _); · (first | omega | (simp; done) | (simp; omega))) | (with_reducible refine Below.drew ?_) | (with_reducible refine below_drewN ?_ _) | ((with_reducible refine below_call (by assumption) ?_ ?_); · (first | omega | (simp; done) | (simp; omega))))))) (by first | omega | (simp; done) | (simp; omega)) (by first | omega | (simp; done) | (simp; omega)) ?_; intro v6 w6 ho6 _ hg6; have hb6 := Below.grown (Below.refl _ _) hg6 (Nat.le_refl _) (fun j hj => by simp [Value.ownBlock] at hj); have b6 : Below wt.heap.size wt w6 := Below.trans (show Below wt.heap.size wt _ by first | exact hT0 | exact below_alloc (show wt.heap.size ≤ wt.drew.heap.size from Nat.le_refl _) hT0 _) (hb6.mono (by simp)); have z6 := b6.size; obtain ⟨p6, c6, rfl⟩ := ho6.form; clear hHeld; refine hK.out _ _ (hout.out _ b6) (fun hHeld => ?_); clear hK K)
        try simp only [Act.put, List.getElem_toArray, List.getElem_cons_succ, List.getElem_cons_zero, List.setIfInBounds_toArray, List.set_cons_zero, List.set_cons_succ]
        (refine wpAnyH_ready (rs := [9]) (by kernel_rfl) (by simp) ?_; refine AllReadyH.cons rfl (fun K hK => ?_) AllReadyH.nil; (try simp only [List.getElem_toArray, List.getElem_cons_succ, List.getElem_cons_zero]); rw [if_pos (by rfl)]; (first | refine wp_app_row lays_ren enC_len enC_one (.tmp 65) (.tmp 69) rfl wt.heap.size ([] ++ C.take k) [((s, T2, A2) : En)] (.slice p6 ([] ++ C.take k).length c6) (.slice (some ⟨w6.heap.size, 0, none⟩) 1 1) (by simp [Act.eval, Act.put, Nat.min_eq_left hkl]) (ho6.alloc _) (by simp [Act.eval, Act.put]) (isR_one w6 _ _ 1 rfl rfl) (by first | omega | (simp; done) | (simp; omega)) (by first | omega | (simp; done) | (simp; omega)) ?_ | refine wp_app_row lays_ren enC_len enC_one (.tmp 65) (.tmp 69) rfl wt.heap.size ([] ++ C.take k) [((s, T2, A2) : En)] (.slice p6 ([] ++ C.take k).length c6) (.slice (some ⟨wt.heap.size, 0, none⟩) 1 1) (by simp [Act.eval, Act.put, Nat.min_eq_left hkl]) ho6 (by simp [Act.eval, Act.put]) ((isR_one (z := 3) (cs := enC) wt.drew ((s, T2, A2) : En) _ 1 rfl rfl).call hb6) (by first | omega | (simp; done) | (simp; omega)) (by first | omega | (simp; done) | (simp; omega)) ?_); intro v7 w7 ho7 hb7 _; obtain ⟨p7, c7, rfl⟩ := ho7.form; have b7 : Below wt.heap.size wt w7 := Below.trans (show Below wt.heap.size wt _ by first | exact b6 | exact below_alloc z6 b6 _) hb7; clear hHeld; refine hK.out _ _ (hout.out _ b7) (fun hHeld => ?_); clear hK K)
        try simp only [Act.put, List.getElem_toArray, List.getElem_cons_succ, List.getElem_cons_zero, List.setIfInBounds_toArray, List.set_cons_zero, List.set_cons_succ]
        (refine wpAnyH_take (i := 10) (v := ?_) rfl (by kernel_rfl) (by kernel_rfl) (by kernel_rfl) (fun _ _ _ h => h) (Or.inl ⟨by rfl, ?_⟩) (by assumption) ?_; rotate_left 1; (focus (intro wz hz; (try dsimp only at hz); (try simp only [List.getElem_toArray, List.getElem_cons_succ, List.getElem_cons_zero]); go_simp; (try (rw [if_neg (by (try simp only [ByteArray.size_append]); omega)])); try (with_reducible rfl); done)))
        try simp only [Act.put, List.getElem_toArray, List.getElem_cons_succ, List.getElem_cons_zero, List.setIfInBounds_toArray, List.set_cons_zero, List.set_cons_succ]
        refine wpAnyH_done (by kernel_rfl) ?_ _
        go_wp2_with fail; go_meet; exact ⟨p7, c7, by first | rfl | (simp; done) | (simp [Nat.min_eq_left hkl]; done), ho7, b7⟩
    case rest =>
      obtain ⟨p5, c5, rfl, ho, hbx⟩ := hcut
      have HO6 := Lib.hid ho
      have hzx := hbx.size
      have Bx := hBt.trans (hbx.mono hBt.size)
      have HTAIL := Lib.hid (show IsR 3 enC wc (.slice (if c3 = k + 1 then some ⟨g, 0, none⟩ else some ⟨g, (k + 1) * 3, none⟩) (C.length - (k + 1)) (c3 - (k + 1))) (C.drop (k + 1)) from by split <;> (first | (have := isR_sub (i := k + 1) (n := C.length - (k + 1)) (cap := c3 - (k + 1)) (o := (k + 1) * 3) (HIt.out.call hbx).cut (by omega) (by omega); rw [List.take_of_length_le (by rw [List.length_drop]; exact Nat.le_refl _)] at this; exact this) | (have e0 : C.drop (k + 1) = [] := List.drop_eq_nil_of_le (by omega); rw [e0, show C.length - (k + 1) = 0 by omega]; exact isR_none _ _ _)))
      have hlx : (([] ++ C.take k) ++ [((s, T2, A2) : En)]).length ≤ 9 := by first | (simp; done) | (simp; omega)
      clear ho hout IPRE hT0
      have hwk : IntKind.i64.wrap ((k : Int) + 1) = (k : Int) + 1 := IntWalk.i64_in _ (by omega)
      have hk1 : (k : Int) + 1 ≤ C.length := by omega
      have hk0 : (0 : Int) ≤ (k : Int) + 1 := by omega
      have hkc : (C.length : Int) ≤ (c3 : Nat) := by omega
      have hkt : ((k : Int) + 1).toNat = k + 1 := by omega
      go_wp2_with (at_builtin; refine app_row lays_ren enC_len enC_one rfl _ _ rfl wt.heap.size _ (C.drop (k + 1)) _ (.slice (if c3 = k + 1 then some ⟨g, 0, none⟩ else some ⟨g, (k + 1) * 3, none⟩) (C.length - (k + 1)) (c3 - (k + 1))) rfl HO6.out (by first | rfl | simp [Act.eval]) HTAIL.out (by first | (simp; done) | (simp; omega)) hzx ?_; intro v8 w8 ho8 hb8 _ _)
      all_goals go_ret2
      all_goals refine ⟨_, by rw [HQ.out.1]; rfl, ?_, (hBt.trans ((hbx.trans hb8).mono hBt.size))⟩
      all_goals rw [HQ.out.2, show putS14 C s (T2, A2) = ([] ++ C.take k ++ [((s, T2, A2) : En)]) ++ C.drop (k + 1) from by unfold putS14; rw [hlo.out, HH.out]; simp]
      all_goals exact ho8.reads enC_len
  | false =>
    have hhi := HI.out.2 rfl
    have HH := Lib.hid hhi
    have h8'' : ¬ (8 : Int) ≤ C.length := by
      rcases h8' with q | q
      · cases q
      · exact q
    clear hhi h8'
    rcases hg3 with ⟨rfl, rfl, rfl⟩ | ⟨g, rfl⟩
    · obtain rfl : k = 0 := by simpa using hkl
      go_wp2_with fail
      refine (cT.out _).mono ?_; rintro e w5 ⟨rfl, hb5⟩
      have B45 : Below w4.heap.size w4 w5 := by (repeat (first | (with_reducible exact Below.refl _ _) | ((with_reducible refine below_alloc ?_ ?_ _); · (first | omega | (simp; done) | (simp; omega))) | ((with_reducible refine below_setCell ?_ ?_ _); · (first | omega | (simp; done) | (simp; omega))) | (with_reducible refine Below.drew ?_) | (with_reducible refine below_drewN ?_ _) | ((with_reducible refine below_call (by assumption) ?_ ?_); · (first | omega | (simp; done) | (simp; omega)))))
      have B5 : Below w.heap.size w w5 := B4.trans (B45.mono B4.size)
      have z45 := B45.size
      have z5 := B5.size
      have HO5 := Lib.hid (HO4.out.call B45)
      clear z0 z1 X4
      go_upto_region 13 with fail
      refine gen_world (F := fun W => (W.cell? ⟨w5.heap.size, 0, none⟩ = some (.int .i64 T2) ∧ W.cell? ⟨w5.heap.size, 1, none⟩ = some (.int .i64 A2)) ∧ Below w.heap.size w W ∧ IsR 3 enC W (.slice none 0 0) []) ⟨by simp [go_sem], below_alloc z5 B5 _, HO5.out.call (below_alloc (Nat.le_refl _) (Below.refl _ _) _)⟩ (fun wt hF => ?_)
      obtain ⟨hX, hBt, hIt⟩ := hF
      have HIt := Lib.hid hIt
      have hout : Hid (∀ W, Below wt.heap.size wt W → W.cell? ⟨w5.heap.size, 0, none⟩ = some (.int .i64 T2) ∧ W.cell? ⟨w5.heap.size, 1, none⟩ = some (.int .i64 A2)) := Lib.hid (fun W hb => Bx2.call hX hb)
      have IPRE : ∀ W, Below wt.heap.size wt W → IsR 3 enC W (.slice none 0 0) (([] : List En)) := fun W hb => IsR.nil 3 enC W
      clear hX hIt
      have hT0 : Below wt.heap.size wt wt.drew := Below.drew (Below.refl _ _)
      go_cut [15] (fun po wx => ∃ p5 c5, po = .slice p5 (([] ++ ([] : List En)) ++ [((s, T2, A2) : En)]).length c5 ∧ OwnR 67 3 enC wx wt.heap.size (.slice p5 (([] ++ ([] : List En)) ++ [((s, T2, A2) : En)]).length c5) (([] ++ ([] : List En)) ++ [((s, T2, A2) : En)]) ∧ Below wt.heap.size wt wx)
      case first =>
        refine wp_region_held_drew (S := fun W => W.cell? ⟨w5.heap.size, 0, none⟩ = some (.int .i64 T2) ∧ W.cell? ⟨w5.heap.size, 1, none⟩ = some (.int .i64 A2)) (by kernel_rfl) (hout.out _ (by assumption)) (fun hHeld => ?_)
        (refine wpAnyH_take (i := 0) (v := ?_) rfl (by kernel_rfl) (by kernel_rfl) (by kernel_rfl) (fun _ _ _ h => h) (Or.inl ⟨by rfl, ?_⟩) (by assumption) ?_; rotate_left 1; (focus (intro wz hz; (try dsimp only at hz); (try simp only [List.getElem_toArray, List.getElem_cons_succ, List.getElem_cons_zero]); go_simp; (try (rw [if_neg (by (try simp only [ByteArray.size_append]); omega)])); try (with_reducible rfl); done)))
        try simp only [Act.put, List.getElem_toArray, List.getElem_cons_succ, List.getElem_cons_zero, List.setIfInBounds_toArray, List.set_cons_zero, List.set_cons_succ]
        (refine wpAnyH_take (i := 1) (v := ?_) rfl (by kernel_rfl) (by kernel_rfl) (by kernel_rfl) (fun _ _ _ h => h) (Or.inl ⟨by rfl, ?_⟩) (by assumption) ?_; rotate_left 1; (focus (intro wz hz; (try dsimp only at hz); (try simp only [List.getElem_toArray, List.getElem_cons_succ, List.getElem_cons_zero]); go_simp; (try (rw [if_neg (by (try simp only [ByteArray.size_append]); omega)])); try (with_reducible rfl); done)))
        try simp only [Act.put, List.getElem_toArray, List.getElem_cons_succ, List.getElem_cons_zero, List.setIfInBounds_toArray, List.set_cons_zero, List.set_cons_succ]
        (refine wpAnyH_take (i := 2) (v := ?_) rfl (by kernel_rfl) (by kernel_rfl) (by kernel_rfl) (fun _ _ _ h => h) (Or.inl ⟨by rfl, ?_⟩) (by assumption) ?_; rotate_left 1; (focus (intro wz hz; (try dsimp only at hz); (try simp only [List.getElem_toArray, List.getElem_cons_succ, List.getElem_cons_zero]); go_simp; (try (rw [if_neg (by (try simp only [ByteArray.size_append]); omega)])); try (with_reducible rfl); done)))
        try simp only [Act.put, List.getElem_toArray, List.getElem_cons_succ, List.getElem_cons_zero, List.setIfInBounds_toArray, List.set_cons_zero, List.set_cons_succ]
        (refine wpAnyH_take (i := 5) (v := ?_) rfl (by kernel_rfl) (by kernel_rfl) (by kernel_rfl) (fun _ _ _ h => h) (Or.inl ⟨by rfl, ?_⟩) (by assumption) ?_; rotate_left 1; (focus (intro wz hz; (try dsimp only at hz); (try simp only [List.getElem_toArray, List.getElem_cons_succ, List.getElem_cons_zero]); go_simp; (try (rw [if_neg (by (try simp only [ByteArray.size_append]); omega)])); try (with_reducible rfl); done)))
        try simp only [Act.put, List.getElem_toArray, List.getElem_cons_succ, List.getElem_cons_zero, List.setIfInBounds_toArray, List.set_cons_zero, List.set_cons_succ]
        (refine wpAnyH_take (i := 6) (v := ?_) rfl (by kernel_rfl) (by kernel_rfl) (by kernel_rfl) (fun _ _ _ h => h) (Or.inl ⟨by rfl, ?_⟩) (by assumption) ?_; rotate_left 1; (focus (intro wz hz; (try dsimp only at hz); (try simp only [List.getElem_toArray, List.getElem_cons_succ, List.getElem_cons_zero]); go_simp; (try (rw [if_neg (by (try simp only [ByteArray.size_append]); omega)])); try (with_reducible rfl); done)))
        try simp only [Act.put, List.getElem_toArray, List.getElem_cons_succ, List.getElem_cons_zero, List.setIfInBounds_toArray, List.set_cons_zero, List.set_cons_succ]
        (refine wpAnyH_take (i := 3) (v := ?_) rfl (by kernel_rfl) (by kernel_rfl) (by kernel_rfl) (fun _ _ _ h => h) (Or.inl ⟨by rfl, ?_⟩) (by assumption) ?_; rotate_left 1; (focus (intro wz hz; (try dsimp only at hz); (try simp only [List.getElem_toArray, List.getElem_cons_succ, List.getElem_cons_zero]); go_simp; (try (rw [if_neg (by (try simp only [ByteArray.size_append]); omega)])); try (with_reducible rfl); done)))
        try simp only [Act.put, List.getElem_toArray, List.getElem_cons_succ, List.getElem_cons_zero, List.setIfInBounds_toArray, List.set_cons_zero, List.set_cons_succ]
        (refine wpAnyH_take (i := 7) (v := ?_) rfl (by kernel_rfl) (by kernel_rfl) (by kernel_rfl) (fun _ _ _ h => h) (Or.inl ⟨by rfl, ?_⟩) (by assumption) ?_; rotate_left 1; (focus (intro wz hz; (try dsimp only at hz); (try simp only [List.getElem_toArray, List.getElem_cons_succ, List.getElem_cons_zero]); go_simp; (try (rw [if_neg (by (try simp only [ByteArray.size_append]); omega)])); try (with_reducible rfl); done)))
        try simp only [Act.put, List.getElem_toArray, List.getElem_cons_succ, List.getElem_cons_zero, List.setIfInBounds_toArray, List.set_cons_zero, List.set_cons_succ]
        refine wpAnyH_ready (rs := [4, 8]) (by kernel_rfl) (by simp) ?_
        refine AllReadyH.cons rfl (fun K hK => ?_) (AllReadyH.cons rfl (fun K hK => ?_) AllReadyH.nil)
        · ((try simp only [List.getElem_toArray, List.getElem_cons_succ, List.getElem_cons_zero]); rw [if_pos (by rfl)]; refine wp_app_row lays_ren enC_len enC_one (.tmp 61) (.tmp 64) rfl wt.heap.size [] (([] : List En)) (.slice none 0 0) (.slice none 0 0) (by simp [Act.eval, Act.put]) (OwnR.nil _ _ _ _ _) (by simp [Act.eval, Act.put]) (IPRE _ (by (repeat (first | (with_reducible exact Below.refl _ _) | ((with_reducible refine below_alloc ?_ ?_ _); · (first | omega | (simp; done) | (simp; omega))) | ((with_reducible refine below_setCell ?_ ?_ _); · (first | omega | (simp; done) | (simp; omega))) | (with_reducible refine Below.drew ?_) | (with_reducible refine below_drewN ?_ _) | ((with_reducible refine below_call (by assumption) ?_ ?_); · (first | omega | (simp; done) | (simp; omega))))))) (by first | omega | (simp; done) | (simp; omega)) (by first | omega | (simp; done) | (simp; omega)) ?_; intro v6 w6 ho6 _ hg6; have hb6 := Below.grown (Below.refl _ _) hg6 (Nat.le_refl _) (fun j hj => by simp [Value.ownBlock] at hj); have b6 : Below wt.heap.size wt w6 := Below.trans (show Below wt.heap.size wt _ by first | exact hT0 | exact below_alloc (show wt.heap.size ≤ wt.drew.heap.size from Nat.le_refl _) hT0 _) (hb6.mono (by simp)); have z6 := b6.size; obtain ⟨p6, c6, rfl⟩ := ho6.form; clear hHeld; refine hK.out _ _ (hout.out _ b6) (fun hHeld => ?_); clear hK K)
          try simp only [Act.put, List.getElem_toArray, List.getElem_cons_succ, List.getElem_cons_zero, List.setIfInBounds_toArray, List.set_cons_zero, List.set_cons_succ]
          (refine wpAnyH_ready (rs := [8]) (by kernel_rfl) (by simp) ?_; refine AllReadyH.cons rfl (fun K hK => ?_) AllReadyH.nil; (try simp only [List.getElem_toArray, List.getElem_cons_succ, List.getElem_cons_zero]); skip; go_simp; refine hK.out _ _ (hout.out _ (by first | exact below_alloc b6.size b6 _ | exact below_alloc (show wt.heap.size ≤ wt.drew.heap.size from Nat.le_refl _) hT0 _)) (fun hHeld => ?_); clear hK K)
          try simp only [Act.put, List.getElem_toArray, List.getElem_cons_succ, List.getElem_cons_zero, List.setIfInBounds_toArray, List.set_cons_zero, List.set_cons_succ]
          (refine wpAnyH_ready (rs := [9]) (by kernel_rfl) (by simp) ?_; refine AllReadyH.cons rfl (fun K hK => ?_) AllReadyH.nil; (try simp only [List.getElem_toArray, List.getElem_cons_succ, List.getElem_cons_zero]); rw [if_pos (by rfl)]; (first | refine wp_app_row lays_ren enC_len enC_one (.tmp 65) (.tmp 69) rfl wt.heap.size ([] ++ ([] : List En)) [((s, T2, A2) : En)] (.slice p6 ([] ++ ([] : List En)).length c6) (.slice (some ⟨w6.heap.size, 0, none⟩) 1 1) (by simp [Act.eval, Act.put, Nat.min_eq_left hkl]) (ho6.alloc _) (by simp [Act.eval, Act.put]) (isR_one w6 _ _ 1 rfl rfl) (by first | omega | (simp; done) | (simp; omega)) (by first | omega | (simp; done) | (simp; omega)) ?_ | refine wp_app_row lays_ren enC_len enC_one (.tmp 65) (.tmp 69) rfl wt.heap.size ([] ++ ([] : List En)) [((s, T2, A2) : En)] (.slice p6 ([] ++ ([] : List En)).length c6) (.slice (some ⟨wt.heap.size, 0, none⟩) 1 1) (by simp [Act.eval, Act.put, Nat.min_eq_left hkl]) ho6 (by simp [Act.eval, Act.put]) ((isR_one (z := 3) (cs := enC) wt.drew ((s, T2, A2) : En) _ 1 rfl rfl).call hb6) (by first | omega | (simp; done) | (simp; omega)) (by first | omega | (simp; done) | (simp; omega)) ?_); intro v7 w7 ho7 hb7 _; obtain ⟨p7, c7, rfl⟩ := ho7.form; have b7 : Below wt.heap.size wt w7 := Below.trans (show Below wt.heap.size wt _ by first | exact b6 | exact below_alloc z6 b6 _) hb7; clear hHeld; refine hK.out _ _ (hout.out _ b7) (fun hHeld => ?_); clear hK K)
          try simp only [Act.put, List.getElem_toArray, List.getElem_cons_succ, List.getElem_cons_zero, List.setIfInBounds_toArray, List.set_cons_zero, List.set_cons_succ]
          (refine wpAnyH_take (i := 10) (v := ?_) rfl (by kernel_rfl) (by kernel_rfl) (by kernel_rfl) (fun _ _ _ h => h) (Or.inl ⟨by rfl, ?_⟩) (by assumption) ?_; rotate_left 1; (focus (intro wz hz; (try dsimp only at hz); (try simp only [List.getElem_toArray, List.getElem_cons_succ, List.getElem_cons_zero]); go_simp; (try (rw [if_neg (by (try simp only [ByteArray.size_append]); omega)])); try (with_reducible rfl); done)))
          try simp only [Act.put, List.getElem_toArray, List.getElem_cons_succ, List.getElem_cons_zero, List.setIfInBounds_toArray, List.set_cons_zero, List.set_cons_succ]
          refine wpAnyH_done (by kernel_rfl) ?_ _
          go_wp2_with fail; go_meet; exact ⟨p7, c7, by first | rfl | (simp; done) | (simp [Nat.min_eq_left hkl]; done), ho7, b7⟩
        · ((try simp only [List.getElem_toArray, List.getElem_cons_succ, List.getElem_cons_zero]); skip; go_simp; refine hK.out _ _ (hout.out _ (by first | exact below_alloc b6.size b6 _ | exact below_alloc (show wt.heap.size ≤ wt.drew.heap.size from Nat.le_refl _) hT0 _)) (fun hHeld => ?_); clear hK K)
          try simp only [Act.put, List.getElem_toArray, List.getElem_cons_succ, List.getElem_cons_zero, List.setIfInBounds_toArray, List.set_cons_zero, List.set_cons_succ]
          (refine wpAnyH_ready (rs := [4]) (by kernel_rfl) (by simp) ?_; refine AllReadyH.cons rfl (fun K hK => ?_) AllReadyH.nil; (try simp only [List.getElem_toArray, List.getElem_cons_succ, List.getElem_cons_zero]); rw [if_pos (by rfl)]; refine wp_app_row lays_ren enC_len enC_one (.tmp 61) (.tmp 64) rfl wt.heap.size [] (([] : List En)) (.slice none 0 0) (.slice none 0 0) (by simp [Act.eval, Act.put]) (OwnR.nil _ _ _ _ _) (by simp [Act.eval, Act.put]) (IPRE _ (by (repeat (first | (with_reducible exact Below.refl _ _) | ((with_reducible refine below_alloc ?_ ?_ _); · (first | omega | (simp; done) | (simp; omega))) | ((with_reducible refine below_setCell ?_ ?_ _); · (first | omega | (simp; done) | (simp; omega))) | (with_reducible refine Below.drew ?_) | (with_reducible refine below_drewN ?_ _) | ((with_reducible refine below_call (by assumption) ?_ ?_); · (first | omega | (simp; done) | (simp; omega))))))) (by first | omega | (simp; done) | (simp; omega)) (by first | omega | (simp; done) | (simp; omega)) ?_; intro v6 w6 ho6 _ hg6; have hb6 := Below.grown (Below.refl _ _) hg6 (Nat.le_refl _) (fun j hj => by simp [Value.ownBlock] at hj); have b6 : Below wt.heap.size wt w6 := Below.trans (show Below wt.heap.size wt _ by first | exact hT0 | exact below_alloc (show wt.heap.size ≤ wt.drew.heap.size from Nat.le_refl _) hT0 _) (hb6.mono (by simp)); have z6 := b6.size; obtain ⟨p6, c6, rfl⟩ := ho6.form; clear hHeld; refine hK.out _ _ (hout.out _ b6) (fun hHeld => ?_); clear hK K)
          try simp only [Act.put, List.getElem_toArray, List.getElem_cons_succ, List.getElem_cons_zero, List.setIfInBounds_toArray, List.set_cons_zero, List.set_cons_succ]
          (refine wpAnyH_ready (rs := [9]) (by kernel_rfl) (by simp) ?_; refine AllReadyH.cons rfl (fun K hK => ?_) AllReadyH.nil; (try simp only [List.getElem_toArray, List.getElem_cons_succ, List.getElem_cons_zero]); rw [if_pos (by rfl)]; (first | refine wp_app_row lays_ren enC_len enC_one (.tmp 65) (.tmp 69) rfl wt.heap.size ([] ++ ([] : List En)) [((s, T2, A2) : En)] (.slice p6 ([] ++ ([] : List En)).length c6) (.slice (some ⟨w6.heap.size, 0, none⟩) 1 1) (by simp [Act.eval, Act.put, Nat.min_eq_left hkl]) (ho6.alloc _) (by simp [Act.eval, Act.put]) (isR_one w6 _ _ 1 rfl rfl) (by first | omega | (simp; done) | (simp; omega)) (by first | omega | (simp; done) | (simp; omega)) ?_ | refine wp_app_row lays_ren enC_len enC_one (.tmp 65) (.tmp 69) rfl wt.heap.size ([] ++ ([] : List En)) [((s, T2, A2) : En)] (.slice p6 ([] ++ ([] : List En)).length c6) (.slice (some ⟨wt.heap.size, 0, none⟩) 1 1) (by simp [Act.eval, Act.put, Nat.min_eq_left hkl]) ho6 (by simp [Act.eval, Act.put]) ((isR_one (z := 3) (cs := enC) wt.drew ((s, T2, A2) : En) _ 1 rfl rfl).call hb6) (by first | omega | (simp; done) | (simp; omega)) (by first | omega | (simp; done) | (simp; omega)) ?_); intro v7 w7 ho7 hb7 _; obtain ⟨p7, c7, rfl⟩ := ho7.form; have b7 : Below wt.heap.size wt w7 := Below.trans (show Below wt.heap.size wt _ by first | exact b6 | exact below_alloc z6 b6 _) hb7; clear hHeld; refine hK.out _ _ (hout.out _ b7) (fun hHeld => ?_); clear hK K)
          try simp only [Act.put, List.getElem_toArray, List.getElem_cons_succ, List.getElem_cons_zero, List.setIfInBounds_toArray, List.set_cons_zero, List.set_cons_succ]
          (refine wpAnyH_take (i := 10) (v := ?_) rfl (by kernel_rfl) (by kernel_rfl) (by kernel_rfl) (fun _ _ _ h => h) (Or.inl ⟨by rfl, ?_⟩) (by assumption) ?_; rotate_left 1; (focus (intro wz hz; (try dsimp only at hz); (try simp only [List.getElem_toArray, List.getElem_cons_succ, List.getElem_cons_zero]); go_simp; (try (rw [if_neg (by (try simp only [ByteArray.size_append]); omega)])); try (with_reducible rfl); done)))
          try simp only [Act.put, List.getElem_toArray, List.getElem_cons_succ, List.getElem_cons_zero, List.setIfInBounds_toArray, List.set_cons_zero, List.set_cons_succ]
          refine wpAnyH_done (by kernel_rfl) ?_ _
          go_wp2_with fail; go_meet; exact ⟨p7, c7, by first | rfl | (simp; done) | (simp [Nat.min_eq_left hkl]; done), ho7, b7⟩
      case rest =>
        obtain ⟨p5, c5, rfl, ho, hbx⟩ := hcut
        have HO6 := Lib.hid ho
        have hzx := hbx.size
        have Bx := hBt.trans (hbx.mono hBt.size)
        have HTAIL := Lib.hid (show IsR 3 enC wc (.slice none 0 0) (([] : List En)) from IsR.nil 3 enC wc)
        have hlx : (([] ++ ([] : List En)) ++ [((s, T2, A2) : En)]).length ≤ 9 := by first | (simp; done) | (simp; omega)
        clear ho hout IPRE hT0
        go_wp2_with (at_builtin; refine app_row lays_ren enC_len enC_one rfl _ _ rfl wt.heap.size _ (([] : List En)) _ (.slice none 0 0) rfl HO6.out (by first | rfl | simp [Act.eval]) HTAIL.out (by first | (simp; done) | (simp; omega)) hzx ?_; intro v8 w8 ho8 hb8 _ _)
        all_goals go_ret2
        all_goals refine ⟨_, by rw [HQ.out.1]; rfl, ?_, (hBt.trans ((hbx.trans hb8).mono hBt.size))⟩
        all_goals rw [HQ.out.2, show putS14 ([] : List En) s (T2, A2) = ([] ++ ([] : List En) ++ [((s, T2, A2) : En)]) ++ ([] : List En) from by unfold putS14; rw [hlo.out, HH.out]; simp]
        all_goals exact ho8.reads enC_len
    · clear hkk2
      have hk3 : (k : Int) ≤ (c3 : Nat) := by omega
      go_wp2_with fail
      refine (cT.out _).mono ?_; rintro e w5 ⟨rfl, hb5⟩
      have B45 : Below w4.heap.size w4 w5 := by (repeat (first | (with_reducible exact Below.refl _ _) | ((with_reducible refine below_alloc ?_ ?_ _); · (first | omega | (simp; done) | (simp; omega))) | ((with_reducible refine below_setCell ?_ ?_ _); · (first | omega | (simp; done) | (simp; omega))) | (with_reducible refine Below.drew ?_) | (with_reducible refine below_drewN ?_ _) | ((with_reducible refine below_call (by assumption) ?_ ?_); · (first | omega | (simp; done) | (simp; omega)))))
      have B5 : Below w.heap.size w w5 := B4.trans (B45.mono B4.size)
      have z45 := B45.size
      have z5 := B5.size
      have HO5 := Lib.hid (HO4.out.call B45)
      clear z0 z1 X4
      go_upto_region 13 with fail
      refine gen_world (F := fun W => (W.cell? ⟨w5.heap.size, 0, none⟩ = some (.int .i64 T2) ∧ W.cell? ⟨w5.heap.size, 1, none⟩ = some (.int .i64 A2)) ∧ Below w.heap.size w W ∧ IsR 3 enC W (.slice (some ⟨g, 0, none⟩) C.length c3) C) ⟨by simp [go_sem], below_alloc z5 B5 _, HO5.out.call (below_alloc (Nat.le_refl _) (Below.refl _ _) _)⟩ (fun wt hF => ?_)
      obtain ⟨hX, hBt, hIt⟩ := hF
      have HIt := Lib.hid hIt
      have hout : Hid (∀ W, Below wt.heap.size wt W → W.cell? ⟨w5.heap.size, 0, none⟩ = some (.int .i64 T2) ∧ W.cell? ⟨w5.heap.size, 1, none⟩ = some (.int .i64 A2)) := Lib.hid (fun W hb => Bx2.call hX hb)
      have IPRE : ∀ W, Below wt.heap.size wt W → IsR 3 enC W (.slice (some ⟨g, 0, none⟩) k c3) (C.take k) := fun W hb => by have := isR_sub (i := 0) (n := k) (cap := c3) (HIt.out.call hb).cut (by omega) rfl; simpa using this
      clear hX hIt
      have hT0 : Below wt.heap.size wt wt.drew := Below.drew (Below.refl _ _)
      go_cut [15] (fun po wx => ∃ p5 c5, po = .slice p5 (([] ++ C.take k) ++ [((s, T2, A2) : En)]).length c5 ∧ OwnR 67 3 enC wx wt.heap.size (.slice p5 (([] ++ C.take k) ++ [((s, T2, A2) : En)]).length c5) (([] ++ C.take k) ++ [((s, T2, A2) : En)]) ∧ Below wt.heap.size wt wx)
      case first =>
        refine wp_region_held_drew (S := fun W => W.cell? ⟨w5.heap.size, 0, none⟩ = some (.int .i64 T2) ∧ W.cell? ⟨w5.heap.size, 1, none⟩ = some (.int .i64 A2)) (by kernel_rfl) (hout.out _ (by assumption)) (fun hHeld => ?_)
        (refine wpAnyH_take (i := 0) (v := ?_) rfl (by kernel_rfl) (by kernel_rfl) (by kernel_rfl) (fun _ _ _ h => h) (Or.inl ⟨by rfl, ?_⟩) (by assumption) ?_; rotate_left 1; (focus (intro wz hz; (try dsimp only at hz); (try simp only [List.getElem_toArray, List.getElem_cons_succ, List.getElem_cons_zero]); go_simp; (try (rw [if_neg (by (try simp only [ByteArray.size_append]); omega)])); try (with_reducible rfl); done)))
        try simp only [Act.put, List.getElem_toArray, List.getElem_cons_succ, List.getElem_cons_zero, List.setIfInBounds_toArray, List.set_cons_zero, List.set_cons_succ]
        (refine wpAnyH_take (i := 1) (v := ?_) rfl (by kernel_rfl) (by kernel_rfl) (by kernel_rfl) (fun _ _ _ h => h) (Or.inl ⟨by rfl, ?_⟩) (by assumption) ?_; rotate_left 1; (focus (intro wz hz; (try dsimp only at hz); (try simp only [List.getElem_toArray, List.getElem_cons_succ, List.getElem_cons_zero]); go_simp; (try (rw [if_neg (by (try simp only [ByteArray.size_append]); omega)])); try (with_reducible rfl); done)))
        try simp only [Act.put, List.getElem_toArray, List.getElem_cons_succ, List.getElem_cons_zero, List.setIfInBounds_toArray, List.set_cons_zero, List.set_cons_succ]
        (refine wpAnyH_take (i := 2) (v := ?_) rfl (by kernel_rfl) (by kernel_rfl) (by kernel_rfl) (fun _ _ _ h => h) (Or.inl ⟨by rfl, ?_⟩) (by assumption) ?_; rotate_left 1; (focus (intro wz hz; (try dsimp only at hz); (try simp only [List.getElem_toArray, List.getElem_cons_succ, List.getElem_cons_zero]); go_simp; (try (rw [if_neg (by (try simp only [ByteArray.size_append]); omega)])); try (with_reducible rfl); done)))
        try simp only [Act.put, List.getElem_toArray, List.getElem_cons_succ, List.getElem_cons_zero, List.setIfInBounds_toArray, List.set_cons_zero, List.set_cons_succ]
        (refine wpAnyH_take (i := 5) (v := ?_) rfl (by kernel_rfl) (by kernel_rfl) (by kernel_rfl) (fun _ _ _ h => h) (Or.inl ⟨by rfl, ?_⟩) (by assumption) ?_; rotate_left 1; (focus (intro wz hz; (try dsimp only at hz); (try simp only [List.getElem_toArray, List.getElem_cons_succ, List.getElem_cons_zero]); go_simp; (try (rw [if_neg (by (try simp only [ByteArray.size_append]); omega)])); try (with_reducible rfl); done)))
        try simp only [Act.put, List.getElem_toArray, List.getElem_cons_succ, List.getElem_cons_zero, List.setIfInBounds_toArray, List.set_cons_zero, List.set_cons_succ]
        (refine wpAnyH_take (i := 6) (v := ?_) rfl (by kernel_rfl) (by kernel_rfl) (by kernel_rfl) (fun _ _ _ h => h) (Or.inl ⟨by rfl, ?_⟩) (by assumption) ?_; rotate_left 1; (focus (intro wz hz; (try dsimp only at hz); (try simp only [List.getElem_toArray, List.getElem_cons_succ, List.getElem_cons_zero]); go_simp; (try (rw [if_neg (by (try simp only [ByteArray.size_append]); omega)])); try (with_reducible rfl); done)))
        try simp only [Act.put, List.getElem_toArray, List.getElem_cons_succ, List.getElem_cons_zero, List.setIfInBounds_toArray, List.set_cons_zero, List.set_cons_succ]
        (refine wpAnyH_take (i := 3) (v := ?_) rfl (by kernel_rfl) (by kernel_rfl) (by kernel_rfl) (fun _ _ _ h => h) (Or.inl ⟨by rfl, ?_⟩) (by assumption) ?_; rotate_left 1; (focus (intro wz hz; (try dsimp only at hz); (try simp only [List.getElem_toArray, List.getElem_cons_succ, List.getElem_cons_zero]); go_simp; (try (rw [if_neg (by (try simp only [ByteArray.size_append]); omega)])); try (with_reducible rfl); done)))
        try simp only [Act.put, List.getElem_toArray, List.getElem_cons_succ, List.getElem_cons_zero, List.setIfInBounds_toArray, List.set_cons_zero, List.set_cons_succ]
        (refine wpAnyH_take (i := 7) (v := ?_) rfl (by kernel_rfl) (by kernel_rfl) (by kernel_rfl) (fun _ _ _ h => h) (Or.inl ⟨by rfl, ?_⟩) (by assumption) ?_; rotate_left 1; (focus (intro wz hz; (try dsimp only at hz); (try simp only [List.getElem_toArray, List.getElem_cons_succ, List.getElem_cons_zero]); go_simp; (try (rw [if_neg (by (try simp only [ByteArray.size_append]); omega)])); try (with_reducible rfl); done)))
        try simp only [Act.put, List.getElem_toArray, List.getElem_cons_succ, List.getElem_cons_zero, List.setIfInBounds_toArray, List.set_cons_zero, List.set_cons_succ]
        refine wpAnyH_ready (rs := [4, 8]) (by kernel_rfl) (by simp) ?_
        refine AllReadyH.cons rfl (fun K hK => ?_) (AllReadyH.cons rfl (fun K hK => ?_) AllReadyH.nil)
        · ((try simp only [List.getElem_toArray, List.getElem_cons_succ, List.getElem_cons_zero]); rw [if_pos (by rfl)]; refine wp_app_row lays_ren enC_len enC_one (.tmp 61) (.tmp 64) rfl wt.heap.size [] (C.take k) (.slice none 0 0) (.slice (some ⟨g, 0, none⟩) k c3) (by simp [Act.eval, Act.put]) (OwnR.nil _ _ _ _ _) (by simp [Act.eval, Act.put]) (IPRE _ (by (repeat (first | (with_reducible exact Below.refl _ _) | ((with_reducible refine below_alloc ?_ ?_ _); · (first | omega | (simp; done) | (simp; omega))) | ((with_reducible refine below_setCell ?_ ?_ _); · (first | omega | (simp; done) | (simp; omega))) | (with_reducible refine Below.drew ?_) | (with_reducible refine below_drewN ?_ _) | ((with_reducible refine below_call (by assumption) ?_ ?_); · (first | omega | (simp; done) | (simp; omega))))))) (by first | omega | (simp; done) | (simp; omega)) (by first | omega | (simp; done) | (simp; omega)) ?_; intro v6 w6 ho6 _ hg6; have hb6 := Below.grown (Below.refl _ _) hg6 (Nat.le_refl _) (fun j hj => by simp [Value.ownBlock] at hj); have b6 : Below wt.heap.size wt w6 := Below.trans (show Below wt.heap.size wt _ by first | exact hT0 | exact below_alloc (show wt.heap.size ≤ wt.drew.heap.size from Nat.le_refl _) hT0 _) (hb6.mono (by simp)); have z6 := b6.size; obtain ⟨p6, c6, rfl⟩ := ho6.form; clear hHeld; refine hK.out _ _ (hout.out _ b6) (fun hHeld => ?_); clear hK K)
          try simp only [Act.put, List.getElem_toArray, List.getElem_cons_succ, List.getElem_cons_zero, List.setIfInBounds_toArray, List.set_cons_zero, List.set_cons_succ]
          (refine wpAnyH_ready (rs := [8]) (by kernel_rfl) (by simp) ?_; refine AllReadyH.cons rfl (fun K hK => ?_) AllReadyH.nil; (try simp only [List.getElem_toArray, List.getElem_cons_succ, List.getElem_cons_zero]); skip; go_simp; refine hK.out _ _ (hout.out _ (by first | exact below_alloc b6.size b6 _ | exact below_alloc (show wt.heap.size ≤ wt.drew.heap.size from Nat.le_refl _) hT0 _)) (fun hHeld => ?_); clear hK K)
          try simp only [Act.put, List.getElem_toArray, List.getElem_cons_succ, List.getElem_cons_zero, List.setIfInBounds_toArray, List.set_cons_zero, List.set_cons_succ]
          (refine wpAnyH_ready (rs := [9]) (by kernel_rfl) (by simp) ?_; refine AllReadyH.cons rfl (fun K hK => ?_) AllReadyH.nil; (try simp only [List.getElem_toArray, List.getElem_cons_succ, List.getElem_cons_zero]); rw [if_pos (by rfl)]; (first | refine wp_app_row lays_ren enC_len enC_one (.tmp 65) (.tmp 69) rfl wt.heap.size ([] ++ C.take k) [((s, T2, A2) : En)] (.slice p6 ([] ++ C.take k).length c6) (.slice (some ⟨w6.heap.size, 0, none⟩) 1 1) (by simp [Act.eval, Act.put, Nat.min_eq_left hkl]) (ho6.alloc _) (by simp [Act.eval, Act.put]) (isR_one w6 _ _ 1 rfl rfl) (by first | omega | (simp; done) | (simp; omega)) (by first | omega | (simp; done) | (simp; omega)) ?_ | refine wp_app_row lays_ren enC_len enC_one (.tmp 65) (.tmp 69) rfl wt.heap.size ([] ++ C.take k) [((s, T2, A2) : En)] (.slice p6 ([] ++ C.take k).length c6) (.slice (some ⟨wt.heap.size, 0, none⟩) 1 1) (by simp [Act.eval, Act.put, Nat.min_eq_left hkl]) ho6 (by simp [Act.eval, Act.put]) ((isR_one (z := 3) (cs := enC) wt.drew ((s, T2, A2) : En) _ 1 rfl rfl).call hb6) (by first | omega | (simp; done) | (simp; omega)) (by first | omega | (simp; done) | (simp; omega)) ?_); intro v7 w7 ho7 hb7 _; obtain ⟨p7, c7, rfl⟩ := ho7.form; have b7 : Below wt.heap.size wt w7 := Below.trans (show Below wt.heap.size wt _ by first | exact b6 | exact below_alloc z6 b6 _) hb7; clear hHeld; refine hK.out _ _ (hout.out _ b7) (fun hHeld => ?_); clear hK K)
          try simp only [Act.put, List.getElem_toArray, List.getElem_cons_succ, List.getElem_cons_zero, List.setIfInBounds_toArray, List.set_cons_zero, List.set_cons_succ]
          (refine wpAnyH_take (i := 10) (v := ?_) rfl (by kernel_rfl) (by kernel_rfl) (by kernel_rfl) (fun _ _ _ h => h) (Or.inl ⟨by rfl, ?_⟩) (by assumption) ?_; rotate_left 1; (focus (intro wz hz; (try dsimp only at hz); (try simp only [List.getElem_toArray, List.getElem_cons_succ, List.getElem_cons_zero]); go_simp; (try (rw [if_neg (by (try simp only [ByteArray.size_append]); omega)])); try (with_reducible rfl); done)))
          try simp only [Act.put, List.getElem_toArray, List.getElem_cons_succ, List.getElem_cons_zero, List.setIfInBounds_toArray, List.set_cons_zero, List.set_cons_succ]
          refine wpAnyH_done (by kernel_rfl) ?_ _
          go_wp2_with fail; go_meet; exact ⟨p7, c7, by first | rfl | (simp; done) | (simp [Nat.min_eq_left hkl]; done), ho7, b7⟩
        · ((try simp only [List.getElem_toArray, List.getElem_cons_succ, List.getElem_cons_zero]); skip; go_simp; refine hK.out _ _ (hout.out _ (by first | exact below_alloc b6.size b6 _ | exact below_alloc (show wt.heap.size ≤ wt.drew.heap.size from Nat.le_refl _) hT0 _)) (fun hHeld => ?_); clear hK K)
          try simp only [Act.put, List.getElem_toArray, List.getElem_cons_succ, List.getElem_cons_zero, List.setIfInBounds_toArray, List.set_cons_zero, List.set_cons_succ]
          (refine wpAnyH_ready (rs := [4]) (by kernel_rfl) (by simp) ?_; refine AllReadyH.cons rfl (fun K hK => ?_) AllReadyH.nil; (try simp only [List.getElem_toArray, List.getElem_cons_succ, List.getElem_cons_zero]); rw [if_pos (by rfl)]; refine wp_app_row lays_ren enC_len enC_one (.tmp 61) (.tmp 64) rfl wt.heap.size [] (C.take k) (.slice none 0 0) (.slice (some ⟨g, 0, none⟩) k c3) (by simp [Act.eval, Act.put]) (OwnR.nil _ _ _ _ _) (by simp [Act.eval, Act.put]) (IPRE _ (by (repeat (first | (with_reducible exact Below.refl _ _) | ((with_reducible refine below_alloc ?_ ?_ _); · (first | omega | (simp; done) | (simp; omega))) | ((with_reducible refine below_setCell ?_ ?_ _); · (first | omega | (simp; done) | (simp; omega))) | (with_reducible refine Below.drew ?_) | (with_reducible refine below_drewN ?_ _) | ((with_reducible refine below_call (by assumption) ?_ ?_); · (first | omega | (simp; done) | (simp; omega))))))) (by first | omega | (simp; done) | (simp; omega)) (by first | omega | (simp; done) | (simp; omega)) ?_; intro v6 w6 ho6 _ hg6; have hb6 := Below.grown (Below.refl _ _) hg6 (Nat.le_refl _) (fun j hj => by simp [Value.ownBlock] at hj); have b6 : Below wt.heap.size wt w6 := Below.trans (show Below wt.heap.size wt _ by first | exact hT0 | exact below_alloc (show wt.heap.size ≤ wt.drew.heap.size from Nat.le_refl _) hT0 _) (hb6.mono (by simp)); have z6 := b6.size; obtain ⟨p6, c6, rfl⟩ := ho6.form; clear hHeld; refine hK.out _ _ (hout.out _ b6) (fun hHeld => ?_); clear hK K)
          try simp only [Act.put, List.getElem_toArray, List.getElem_cons_succ, List.getElem_cons_zero, List.setIfInBounds_toArray, List.set_cons_zero, List.set_cons_succ]
          (refine wpAnyH_ready (rs := [9]) (by kernel_rfl) (by simp) ?_; refine AllReadyH.cons rfl (fun K hK => ?_) AllReadyH.nil; (try simp only [List.getElem_toArray, List.getElem_cons_succ, List.getElem_cons_zero]); rw [if_pos (by rfl)]; (first | refine wp_app_row lays_ren enC_len enC_one (.tmp 65) (.tmp 69) rfl wt.heap.size ([] ++ C.take k) [((s, T2, A2) : En)] (.slice p6 ([] ++ C.take k).length c6) (.slice (some ⟨w6.heap.size, 0, none⟩) 1 1) (by simp [Act.eval, Act.put, Nat.min_eq_left hkl]) (ho6.alloc _) (by simp [Act.eval, Act.put]) (isR_one w6 _ _ 1 rfl rfl) (by first | omega | (simp; done) | (simp; omega)) (by first | omega | (simp; done) | (simp; omega)) ?_ | refine wp_app_row lays_ren enC_len enC_one (.tmp 65) (.tmp 69) rfl wt.heap.size ([] ++ C.take k) [((s, T2, A2) : En)] (.slice p6 ([] ++ C.take k).length c6) (.slice (some ⟨wt.heap.size, 0, none⟩) 1 1) (by simp [Act.eval, Act.put, Nat.min_eq_left hkl]) ho6 (by simp [Act.eval, Act.put]) ((isR_one (z := 3) (cs := enC) wt.drew ((s, T2, A2) : En) _ 1 rfl rfl).call hb6) (by first | omega | (simp; done) | (simp; omega)) (by first | omega | (simp; done) | (simp; omega)) ?_); intro v7 w7 ho7 hb7 _; obtain ⟨p7, c7, rfl⟩ := ho7.form; have b7 : Below wt.heap.size wt w7 := Below.trans (show Below wt.heap.size wt _ by first | exact b6 | exact below_alloc z6 b6 _) hb7; clear hHeld; refine hK.out _ _ (hout.out _ b7) (fun hHeld => ?_); clear hK K)
          try simp only [Act.put, List.getElem_toArray, List.getElem_cons_succ, List.getElem_cons_zero, List.setIfInBounds_toArray, List.set_cons_zero, List.set_cons_succ]
          (refine wpAnyH_take (i := 10) (v := ?_) rfl (by kernel_rfl) (by kernel_rfl) (by kernel_rfl) (fun _ _ _ h => h) (Or.inl ⟨by rfl, ?_⟩) (by assumption) ?_; rotate_left 1; (focus (intro wz hz; (try dsimp only at hz); (try simp only [List.getElem_toArray, List.getElem_cons_succ, List.getElem_cons_zero]); go_simp; (try (rw [if_neg (by (try simp only [ByteArray.size_append]); omega)])); try (with_reducible rfl); done)))
          try simp only [Act.put, List.getElem_toArray, List.getElem_cons_succ, List.getElem_cons_zero, List.setIfInBounds_toArray, List.set_cons_zero, List.set_cons_succ]
          refine wpAnyH_done (by kernel_rfl) ?_ _
          go_wp2_with fail; go_meet; exact ⟨p7, c7, by first | rfl | (simp; done) | (simp [Nat.min_eq_left hkl]; done), ho7, b7⟩
      case rest =>
        obtain ⟨p5, c5, rfl, ho, hbx⟩ := hcut
        have HO6 := Lib.hid ho
        have hzx := hbx.size
        have Bx := hBt.trans (hbx.mono hBt.size)
        have HTAIL := Lib.hid (show IsR 3 enC wc (.slice (if c3 = k then some ⟨g, 0, none⟩ else some ⟨g, k * 3, none⟩) (C.length - k) (c3 - k)) (C.drop k) from by split <;> (first | (have := isR_sub (i := k) (n := C.length - k) (cap := c3 - k) (o := k * 3) (HIt.out.call hbx).cut (by omega) (by omega); rw [List.take_of_length_le (by rw [List.length_drop]; exact Nat.le_refl _)] at this; exact this) | (have e0 : C.drop k = [] := List.drop_eq_nil_of_le (by omega); rw [e0, show C.length - k = 0 by omega]; exact isR_none _ _ _)))
        have hlx : (([] ++ C.take k) ++ [((s, T2, A2) : En)]).length ≤ 9 := by first | (simp; done) | (simp; omega)
        clear ho hout IPRE hT0
        have hk1 : (k : Int) ≤ C.length := by omega
        have hkc : (C.length : Int) ≤ (c3 : Nat) := by omega
        go_wp2_with (at_builtin; refine app_row lays_ren enC_len enC_one rfl _ _ rfl wt.heap.size _ (C.drop k) _ (.slice (if c3 = k then some ⟨g, 0, none⟩ else some ⟨g, k * 3, none⟩) (C.length - k) (c3 - k)) rfl HO6.out (by first | rfl | simp [Act.eval]) HTAIL.out (by first | (simp; done) | (simp; omega)) hzx ?_; intro v8 w8 ho8 hb8 _ _)
        all_goals go_ret2
        all_goals refine ⟨_, by rw [HQ.out.1]; rfl, ?_, (hBt.trans ((hbx.trans hb8).mono hBt.size))⟩
        all_goals rw [HQ.out.2, show putS14 C s (T2, A2) = ([] ++ C.take k ++ [((s, T2, A2) : En)]) ++ C.drop k from by unfold putS14; rw [hlo.out, HH.out]; simp]
        all_goals exact ho8.reads enC_len
end Go.Proofs.Ytpmabkegjdjodaa
