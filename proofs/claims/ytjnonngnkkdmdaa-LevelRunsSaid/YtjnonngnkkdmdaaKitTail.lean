/- My own small kit: a region that draws its order, whose last operations wait for all of the first: the first as a region of their own, in which a cell that is written at the end only may be held. -/
import Derived.Test.YtjnonngnkkdmdaaKit
import Derived.Deep.RegionHeld3
namespace Go.Proofs.Ytjnonngnkkdmdaa
open Go.RowKit
set_option linter.unusedVariables false
set_option linter.unusedSimpArgs false

/-- each of the first n operations waits for earlier ones alone; each of those behind them waits for all of the first -/
def tailWaits (md : Region.Mode) (n : Nat) (ops : Array Oper) : Bool :=
  (List.range ops.size).all fun i => match ops[i]? with
    | none => false
    | some o => if i < n then (o.after.all fun e => decide (e.on < i)) && (match o.guard with
        | some (g, _) => decide (g < n)
        | none => true)
      else (List.range n).all fun j => o.after.any fun e => Region.binds md e && e.on == j
/-- what is left behind the first -/
def TailQ (P : Program) (md : Region.Mode) (l1 l2 : List Oper) (Q : Exit → Act → World → Prop) : Exit → Act → World → Prop
  | .normal, a, w => wpAny P md (l1 ++ l2).toArray Q l2.length (List.replicate l1.length true ++ List.replicate l2.length false).toArray a w
  | e, a, w => Q e a w
theorem tail_go {P : Program} {md : Region.Mode} {l1 l2 : List Oper} {Q : Exit → Act → World → Prop} {a : Act} {w : World} (h : wpAnyH P md (l1 ++ l2).toArray Q (fun _ => True) l2.length (List.replicate l1.length true ++ List.replicate l2.length false).toArray a w) : TailQ P md l1 l2 Q .normal a w :=
  wpAny_of_held _ _ _ _ h
theorem tail_head {md : Region.Mode} {l1 l2 : List Oper} (h : tailWaits md l1.length (l1 ++ l2).toArray = true) {i : Nat} {o : Oper} (hi : i < l1.length) (ho : (l1 ++ l2).toArray[i]? = some o) :
    (∀ e ∈ o.after, e.on < i) ∧ (∀ g b, o.guard = some (g, b) → g < l1.length) := by
  unfold tailWaits at h
  rw [List.all_eq_true] at h
  have h1 := h i (List.mem_range.2 (by simp; omega))
  rw [ho] at h1
  simp only [hi, if_true, Bool.and_eq_true] at h1
  refine ⟨fun e he => ?_, fun g b hg => ?_⟩
  · have := Array.all_eq_true_iff_forall_mem.1 h1.1 e he
    simpa using this
  · have := h1.2
    rw [hg] at this
    simpa using this
theorem tail_tail {md : Region.Mode} {l1 l2 : List Oper} (h : tailWaits md l1.length (l1 ++ l2).toArray = true) {i : Nat} {o : Oper} (hi : l1.length ≤ i) (ho : (l1 ++ l2).toArray[i]? = some o) {j : Nat} (hj : j < l1.length) :
    ∃ e ∈ o.after, Region.binds md e = true ∧ e.on = j := by
  unfold tailWaits at h
  rw [List.all_eq_true] at h
  have hlt := (Array.getElem?_eq_some_iff.1 ho).1
  have h1 := h i (List.mem_range.2 hlt)
  rw [ho] at h1
  simp only [show ¬ i < l1.length by omega, if_false, List.all_eq_true, List.mem_range] at h1
  obtain ⟨e, he, hb⟩ := Array.any_eq_true'.1 (h1 j hj)
  simp only [Bool.and_eq_true, beq_iff_eq] at hb
  exact ⟨e, he, hb⟩
theorem any_more {P : Program} {md : Region.Mode} {ops : Array Oper} {Q : Exit → Act → World → Prop} (k : Nat) : ∀ (fuel : Nat) (listed : Array Bool) (a : Act) (w : World), wpAny P md ops Q fuel listed a w → wpAny P md ops Q (fuel + k) listed a w
  | 0, listed, a, w, h => by
    cases k with
    | zero => exact h
    | succ k =>
      rw [Nat.zero_add]
      exact ⟨fun _ => h.2, fun i hi => by rw [h.1] at hi; cases hi⟩
  | fuel + 1, listed, a, w, h => by
    rw [Nat.add_right_comm]
    exact ⟨h.1, fun i hi => wpOp_mono (fun a' w' h' => any_more k fuel _ a' w' h') (h.2 i hi)⟩
theorem op_same (l1 l2 : List Oper) {i : Nat} (hi : i < l1.length) : (l1 ++ l2).toArray[i]? = l1.toArray[i]? := by
  simp [List.getElem?_append_left hi]
theorem tail_out {P : Program} {md : Region.Mode} {l1 l2 : List Oper} {Q : Exit → Act → World → Prop} (h : LetsOut (TailQ P md l1 l2 Q)) : LetsOut Q := by
  obtain ⟨a, w, h⟩ := h
  exact ⟨a, w, h⟩
theorem tail_op {P : Program} {md : Region.Mode} {l1 l2 : List Oper} {Q : Exit → Act → World → Prop} (hw : tailWaits md l1.length (l1 ++ l2).toArray = true) {i : Nat} (hi : i < l1.length) {K : Act → World → Prop} {a : Act} {w : World}
    (h : wpOp P l1.toArray (TailQ P md l1 l2 Q) i K a w) : wpOp P (l1 ++ l2).toArray Q i K a w := by
  unfold wpOp at h ⊢
  rw [← op_same l1 l2 hi] at h
  cases ho : (l1 ++ l2).toArray[i]? with
  | none =>
    rw [ho] at h
    exact h
  | some o =>
    rw [ho] at h
    have hg := (tail_head hw hi ho).2
    have hwant : Region.wanted o (yielded l1.toArray a.tmps) = Region.wanted o (yielded (l1 ++ l2).toArray a.tmps) := by
      unfold Region.wanted
      cases hgd : o.guard with
      | none => rfl
      | some gb =>
        obtain ⟨g, b⟩ := gb
        have : yielded l1.toArray a.tmps g = yielded (l1 ++ l2).toArray a.tmps g := by
          unfold yielded
          rw [op_same l1 l2 (hg g b hgd)]
        simp only [this]
    simp only [hwant] at h
    simp only
    split
    · rename_i hx
      simp only [hx, if_true] at h
      rcases h with h | ⟨h1, h2⟩
      · refine .inl ?_
        unfold Oper.wp at h ⊢
        generalize (execOp a.eval o).run P w = r at h ⊢
        cases r with
        | ok n w' =>
          cases n <;> simp only [Oper.upon] at h ⊢
          case value u => exact h
          case skip => exact h
          case defer d => exact h
          case enter f args =>
            refine Calls.mono h fun e w'' he => ?_
            cases e with
            | returned v => exact he
            | panicked c => exact he
            | outgrown => exact tail_out he
          case row row args => exact h
        | halt x w' =>
          cases x <;> simp only [Oper.upon] at h ⊢
          case panic u => exact h
      · exact .inr ⟨h1, tail_out h2⟩
    · rename_i hx
      simp only [hx] at h
      exact h
/-- nothing that may come up: all have come up -/
theorem ready_none {md : Region.Mode} {l1 l2 : List Oper} (hw : tailWaits md l1.length (l1 ++ l2).toArray = true) {lh : Array Bool} (hs : lh.size = l1.length) (hr : Region.ready md l1.toArray lh = []) : ∀ j, j < l1.length → lh[j]? = some true := by
  intro j
  induction j using Nat.strongRecOn with
  | _ j ih =>
    intro hj
    obtain ⟨b, hb⟩ : ∃ b, lh[j]? = some b := ⟨_, Array.getElem?_eq_getElem (by omega)⟩
    cases b with
    | true => exact hb
    | false =>
      exfalso
      have ho : l1.toArray[j]? = some l1[j] := by simp [hj]
      have hm : j ∈ Region.ready md l1.toArray lh := mem_ready.2 ⟨by simp [hb], _, ho, fun e he _ => by
        have hlt := (tail_head hw hj (by rw [op_same l1 l2 hj]; exact ho)).1 e he
        simp [ih e.on hlt (by omega)]⟩
      rw [hr] at hm
      cases hm
theorem any_tail {P : Program} {md : Region.Mode} {l1 l2 : List Oper} {Q : Exit → Act → World → Prop} (hw : tailWaits md l1.length (l1 ++ l2).toArray = true) :
    ∀ (fuel : Nat) (listed lh : Array Bool) (a : Act) (w : World), listed.size = l1.length + l2.length → lh.size = l1.length → (∀ j, j < l1.length → listed[j]? = lh[j]?) → (∀ j, l1.length ≤ j → j < l1.length + l2.length → listed[j]? = some false) →
      wpAny P md l1.toArray (TailQ P md l1 l2 Q) fuel lh a w → wpAny P md (l1 ++ l2).toArray Q (fuel + l2.length) listed a w := by
  have key : ∀ (listed lh : Array Bool), listed.size = l1.length + l2.length → lh.size = l1.length → (∀ j, j < l1.length → listed[j]? = lh[j]?) → (∀ j, l1.length ≤ j → j < l1.length + l2.length → listed[j]? = some false) → Region.ready md l1.toArray lh = [] →
      listed = (List.replicate l1.length true ++ List.replicate l2.length false).toArray := by
    intro listed lh h1 h2 h3 h4 hr
    have ha := ready_none hw h2 hr
    apply Array.ext_getElem?
    intro j
    by_cases hj : j < l1.length
    · rw [h3 j hj, ha j hj]
      simp [List.getElem?_append_left, hj]
    · by_cases hj2 : j < l1.length + l2.length
      · rw [h4 j (by omega) hj2]
        simp [List.getElem?_append_right, show l1.length ≤ j by omega, show j - l1.length < l2.length by omega]
      · rw [Array.getElem?_eq_none (by omega), Array.getElem?_eq_none (by simp; omega)]
  have same : ∀ (listed lh : Array Bool), listed.size = l1.length + l2.length → lh.size = l1.length → (∀ j, j < l1.length → listed[j]? = lh[j]?) → Region.ready md l1.toArray lh ≠ [] → ∀ i, (i ∈ Region.ready md (l1 ++ l2).toArray listed → i < l1.length ∧ i ∈ Region.ready md l1.toArray lh) ∧ (i ∈ Region.ready md l1.toArray lh → i ∈ Region.ready md (l1 ++ l2).toArray listed) := by
    intro listed lh h1 h2 h3 hne i
    have hd : ∀ j, j < l1.length → listed.getD j false = lh.getD j false ∧ listed.getD j true = lh.getD j true := fun j hj => by
      simp [h3 j hj]
    constructor
    · intro hi
      obtain ⟨hu, o, ho, hall⟩ := mem_ready.1 hi
      have hil : i < l1.length := by
        rcases Nat.lt_or_ge i l1.length with h | h
        · exact h
        · exfalso
          apply hne
          have hl : ∀ j, j < l1.length → lh.getD j false = true := fun j hj => by
            obtain ⟨e, he, hb, hej⟩ := tail_tail hw h ho hj
            rw [← (hd j hj).1, ← hej]
            exact hall e he hb
          cases hr : Region.ready md l1.toArray lh with
          | nil => rfl
          | cons x t =>
            exfalso
            have hx : x ∈ Region.ready md l1.toArray lh := by rw [hr]; exact List.mem_cons_self ..
            obtain ⟨hxu, ox, hox, _⟩ := mem_ready.1 hx
            have hxl : x < l1.length := by have := (Array.getElem?_eq_some_iff.1 hox).1; simpa using this
            have h5 := hl x hxl
            simp at h5 hxu
            rw [Array.getElem?_eq_getElem (show x < lh.size by omega)] at h5 hxu
            simp at h5 hxu
            rw [h5] at hxu
            cases hxu
      refine ⟨hil, mem_ready.2 ⟨by rw [← (hd i hil).2]; exact hu, o, by rw [← op_same l1 l2 hil]; exact ho, fun e he hb => ?_⟩⟩
      rw [← (hd e.on (by have := (tail_head hw hil ho).1 e he; omega)).1]
      exact hall e he hb
    · intro hi
      obtain ⟨hu, o, ho, hall⟩ := mem_ready.1 hi
      have hil : i < l1.length := by have := (Array.getElem?_eq_some_iff.1 ho).1; simpa using this
      have ho' := (op_same l1 l2 hil).trans ho
      refine mem_ready.2 ⟨by rw [(hd i hil).2]; exact hu, o, ho', fun e he hb => ?_⟩
      rw [(hd e.on (by have := (tail_head hw hil ho').1 e he; omega)).1]
      exact hall e he hb
  intro fuel
  induction fuel with
  | zero =>
    intro listed lh a w h1 h2 h3 h4 H
    rw [key listed lh h1 h2 h3 h4 H.1, Nat.zero_add]
    exact H.2
  | succ fuel ih =>
    intro listed lh a w h1 h2 h3 h4 H
    by_cases hr : Region.ready md l1.toArray lh = []
    · rw [key listed lh h1 h2 h3 h4 hr, Nat.add_comm]
      exact any_more (fuel + 1) l2.length _ _ _ (H.1 hr)
    · have hs := same listed lh h1 h2 h3 hr
      rw [Nat.add_right_comm]
      refine ⟨fun h0 => ?_, fun i hi => ?_⟩
      · exfalso
        obtain ⟨i, hi⟩ := List.exists_mem_of_ne_nil _ hr
        have := (hs i).2 hi
        rw [h0] at this
        cases this
      · obtain ⟨hil, hih⟩ := (hs i).1 hi
        refine tail_op hw hil (wpOp_mono (fun a' w' h' => ih _ _ a' w' (by simpa using h1) (by simpa using h2) (fun j hj => ?_) (fun j hj hj2 => ?_) h') (H.2 i hih))
        · by_cases hij : i = j
          · subst hij
            simp [Array.getElem?_setIfInBounds, h1, h2, hil, show i < l1.length + l2.length by omega]
          · rw [Array.getElem?_setIfInBounds_ne hij, Array.getElem?_setIfInBounds_ne hij, h3 j hj]
        · rw [Array.getElem?_setIfInBounds_ne (by omega), h4 j hj hj2]
/-- the beginning: the first operations under S; what is behind them is left for the end -/
theorem wp_region_tail_drew {P : Program} {id : Nat} {l1 l2 : List Oper} {Q : Exit → Act → World → Prop} {S : World → Prop} {a : Act} {w : World} (hm : P.follows .mixedOrders = true) (hw : tailWaits .any l1.length (l1 ++ l2).toArray = true) (hS : S w.drew)
    (h : S w.drew → wpAnyH P .any l1.toArray (TailQ P .any l1 l2 Q) S l1.length (Array.replicate l1.length false) a w.drew) : (Code.region id (l1 ++ l2).toArray true).wp P Q a w := by
  refine wp_region_any hm ?_
  have hz : (l1 ++ l2).toArray.size = l1.length + l2.length := by simp
  rw [hz]
  refine any_tail hw l1.length _ _ _ _ (by simp) (by simp) (fun j hj => ?_) (fun j hj hj2 => ?_) (wpAny_of_held _ _ _ _ (h hS))
  · simp [hj, show j < l1.length + l2.length by omega]
  · simp [hj2]
end Go.Proofs.Ytjnonngnkkdmdaa
