/- Layer 15, the program's: numbers that are due, sorted by ticks, then numbers (slices.SortFunc with the program's order). -/
import Derived.Test.YtcanaadcjipfjaaW15A
import Derived.Test.YtcanaadcjipfjaaKitSort
import Derived.Test.YtcanaadcjipfjaaShelfG
namespace Go.Proofs.Ytcanaadcjipfjaa
open Go.RowKit Go.Sort
set_option linter.unusedVariables false
set_option linter.unusedSimpArgs false

def cmpI (x y : Int) : Int := if x < y then -1 else if y < x then 1 else 0
def cmpDu (x y : Du) : Int := if x.2 = y.2 then cmpI x.1 y.1 else cmpI x.2 y.2
theorem cmpnan_any (x : Int) (w : World) : Calls Try.prog 46 #[.int .i64 x] w fun e w' => e = .returned (.bool false) ∧ w' = w := by
  go_enter Try.func46, Try.ntmps46
  go_wp2
  go_ret
  exact ⟨by simp, rfl⟩
theorem cmpint_any (x y : Int) (w : World) : Calls Try.prog 35 #[.int .i64 x, .int .i64 y] w fun e w' => e = .returned (.int .i64 (cmpI x y)) ∧ w' = w := by
  have c := Lib.hid (fun z W => cmpnan_any z W)
  unfold cmpI
  go_enter Try.func35, Try.ntmps35
  go_wp2_with (go_at_call 46; refine (c.out _ _).mono ?_; rintro e w2 ⟨rfl, rfl⟩)
  all_goals
    go_ret
    refine ⟨ret_int ?_, rfl⟩
    simp_all
theorem alldue_any (x y : Du) (W : World) : Calls Try.prog 32 #[.agg #[.int .i64 x.1, .int .i64 x.2], .agg #[.int .i64 y.1, .int .i64 y.2]] W fun e w' => e = .returned (.int .i64 (cmpDu x y)) ∧ ∃ q os', w' = Sort.grow (W.drewN q) os' := by
  have c := Lib.hid (fun a b W => cmpint_any a b W)
  obtain ⟨x1, x2⟩ := x
  obtain ⟨y1, y2⟩ := y
  by_cases h : x2 = y2
  · subst h
    rw [show cmpDu (x1, x2) (y1, x2) = cmpI x1 y1 from if_pos rfl]
    go_enter Try.func32, Try.ntmps32
    go_wp2_with fail
    refine (c.out _ _ _).mono ?_; rintro e w1 ⟨rfl, rfl⟩
    go_wp2
    go_ret
    exact ⟨rfl, 0, _, by rw [alloc_eq_grow, alloc_eq_grow, grow_grow]; rfl⟩
  · rw [show cmpDu (x1, x2) (y1, y2) = cmpI x2 y2 from if_neg h]
    go_enter Try.func32, Try.ntmps32
    go_wp2_with fail
    refine (c.out _ _ _).mono ?_; rintro e w1 ⟨rfl, rfl⟩
    go_wp2
    go_ret
    exact ⟨rfl, 0, _, by rw [alloc_eq_grow, alloc_eq_grow, grow_grow]; rfl⟩
theorem lt_due (x y : Du) : ltOf cmpDu x y = aheadB x y := by
  unfold ltOf cmpDu cmpI aheadB
  by_cases h : x.2 = y.2
  · rw [if_pos h]
    by_cases h1 : x.1 < y.1 <;> by_cases h2 : y.1 < x.1 <;> simp [h, h1, h2]
  · rw [if_neg h]
    by_cases h1 : x.2 < y.2 <;> by_cases h2 : y.2 < x.2 <;> simp [h, h1, h2]
    all_goals omega
theorem swo_due : SWO (ltOf cmpDu) where
  irrefl x := by rw [lt_due]; unfold aheadB; simp
  trans x y z h1 h2 := by rw [lt_due] at *; rw [ahead_iff] at *; omega
  ntrans x y z h1 h2 := by
    rw [lt_due] at *
    have e : ∀ a b : Du, aheadB a b = false ↔ ¬ (a.2 < b.2 ∨ (a.2 = b.2 ∧ a.1 < b.1)) := fun a b => by rw [← ahead_iff]; simp
    rw [e] at *
    omega
theorem one_due (x y : Du) (h1 : ltOf cmpDu x y = false) (h2 : ltOf cmpDu y x = false) : x = y := by
  rw [lt_due] at *
  have e : ∀ a b : Du, aheadB a b = false ↔ ¬ (a.2 < b.2 ∨ (a.2 = b.2 ∧ a.1 < b.1)) := fun a b => by rw [← ahead_iff]; simp
  rw [e] at *
  obtain ⟨x1, x2⟩ := x
  obtain ⟨y1, y2⟩ := y
  simp only at h1 h2
  rw [show x1 = y1 by omega, show x2 = y2 by omega]
def sortD (l : List Du) : List Du := l.mergeSort fun x y => !(ltOf cmpDu) y x
theorem sort_is {l L : List Du} (h : L.Pairwise (fun a b => aheadB a b = true)) (hp : l.Perm L) : sortD l = L := by
  have h1 : (sortD l).Pairwise (fun a b => (!(ltOf cmpDu) b a) = true) := by
    unfold sortD
    refine List.pairwise_mergeSort (fun a b c h1 h2 => ?_) (fun a b => ?_) l
    · simp only [Bool.not_eq_true'] at *
      exact swo_due.ntrans c b a h2 h1
    · cases h : ltOf cmpDu b a
      · simp
      · have : ltOf cmpDu a b = false := by
          cases h' : ltOf cmpDu a b
          · rfl
          · have := swo_due.trans a b a h' h
            rw [swo_due.irrefl] at this
            cases this
        simp [this]
  have h2 : L.Pairwise (fun a b => (!(ltOf cmpDu) b a) = true) := h.imp (fun {a b} q => by
    rw [lt_due]
    cases hq : aheadB b a
    · rfl
    · rw [ahead_iff] at q hq; omega)
  have hpp : (sortD l).Perm L := (List.mergeSort_perm l _).trans hp
  exact hpp.eq_of_pairwise (fun a b _ _ q1 q2 => one_due a b (by simpa using q2) (by simpa using q1)) h1 h2
theorem sortdue_any (v : Value) (l : List Du) (B : Nat) (w : World) (hv : OwnR 62 2 duC w B v l) (hl : l.length ≤ 1000000) :
    Calls Try.prog 31 #[v, .func (.func 32) #[] #[]] w fun e w' => e = .returned (.tuple #[]) ∧ OwnR 62 2 duC w' B v (sortD l) ∧ RowKit.Below B w w' := by
  rcases hv.2 with ⟨rfl, hL⟩ | ⟨g, cap, cur, rfl, hB, hg, hr⟩
  · obtain rfl := List.eq_nil_of_length_eq_zero hL
    have hcon := AnyF.slices_SortFunc_none (P := Try.prog) Try.sortDue none 0 (.func (.func 32) #[] #[]) w
    refine hcon.mono ?_
    rintro e w' ⟨rfl, rfl⟩
    exact ⟨rfl, by unfold sortD; rw [List.mergeSort_nil]; exact OwnR.nil _ _ _ _ _, RowKit.Below.refl _ _⟩
  · have eg : ∀ args w, (callFunc 32 args).run Try.prog w = .ok (.enter 32 args) w := enters_of Try.func32 (by kernel_rfl) rfl
    have hcon := AnyQ.slices_SortFunc_total (P := Try.prog) Try.sortDue 2 Try.isAgg62 Try.sizeOf62 duC (fun _ => rfl) duC_one cmpDu swo_due 32 #[] g 0 cap l.toArray w eg (fun m os dk hs x y => alldue_any x y _) (own_holds duC_len (by decide) hv rfl) (Array.getElem?_eq_some_iff.1 hg).1 (by simp; omega) one_due
    refine hcon.mono ?_
    rintro e w' ⟨rfl, n, os, rfl⟩
    have := sort_owns (m := n) (os := os) (d := (sortD l).toArray) duC_len (by decide) hv rfl (by unfold sortD; simp)
    exact ⟨rfl, by simpa [sortD] using this.1, by simpa [sortD] using this.2⟩
end Go.Proofs.Ytcanaadcjipfjaa
