/- Layer 15, the program's (a wheel whose slots are maps): what the slots hold that are passed, up to a tick. -/
import Derived.Test.YtcanaadcjipfjaaW15N
namespace Go.Proofs.Ytcanaadcjipfjaa
open Go.RowKit
set_option linter.unusedVariables false
set_option linter.unusedSimpArgs false

theorem own_kept {α : Type} {te : TypeId} {z : Nat} {cs : α → List Value} {w w' : World} {B : Nat} {v : Value} {l : List α} {row : Option Nat} (h : OwnR te z cs w B v l) (hg : w.grownBy w' row) (hne : v.ownBlock = none ∨ v.ownBlock ≠ row) : OwnR te z cs w' B v l := by
  obtain ⟨h1, h2⟩ := h
  refine ⟨h1, ?_⟩
  rcases h2 with h2 | ⟨g, cap, cur, hv, hB, hgb, r⟩
  · exact .inl h2
  · have hlt : g < w.heap.size := (Array.getElem?_eq_some_iff.1 hgb).1
    have hn : some g ≠ row := by
      rcases hne with h3 | h3
      · rw [hv] at h3; simp [Value.ownBlock] at h3
      · rw [hv] at h3; simpa [Value.ownBlock] using h3
    exact .inr ⟨g, cap, cur, hv, hB, (hg.block g hlt hn).trans hgb, r⟩
/-- what the slots that are passed first hold, up to a tick -/
def upW (N : Nat) (l : List Du) (now t : Int) (k : Nat) : List Du := (List.range k).flatMap fun (i : Nat) => (slotL N l ((now + 1 + (i : Int)) % (N : Int)).toNat).filter fun e => decide (e.2 ≤ t)
theorem upW_next (N : Nat) (l : List Du) (now t : Int) (k : Nat) : upW N l now t (k + 1) = upW N l now t k ++ (slotL N l ((now + 1 + k) % (N : Int)).toNat).filter fun e => decide (e.2 ≤ t) := by
  unfold upW
  rw [List.range_succ, List.flatMap_append, List.flatMap_cons, List.flatMap_nil, List.append_nil]
theorem upW_len {N : Nat} {l : List Du} {now t : Int} (h : l.length ≤ 256) (k : Nat) : (upW N l now t k).length ≤ k * 256 := by
  induction k with
  | zero => simp [upW]
  | succ k ih =>
    rw [upW_next, List.length_append, Nat.succ_mul]
    have h1 : (slotL N l ((now + 1 + k) % (N : Int)).toNat).length ≤ l.length := List.length_filter_le _ _
    have h2 : ((slotL N l ((now + 1 + k) % (N : Int)).toNat).filter fun e => decide (e.2 ≤ t)).length ≤ _ := List.length_filter_le _ _
    omega
theorem mod_turn {N : Nat} {x now : Int} {k : Nat} (hk : k < N) : x % (N : Int) = (((now + 1 + k) % (N : Int)).toNat : Int) ↔ (x - now - 1) % (N : Int) = (k : Int) := by
  have e : (k : Int) % (N : Int) = (k : Int) := Int.emod_eq_of_lt (by omega) (by omega)
  rw [Int.toNat_of_nonneg (Int.emod_nonneg _ (by omega)), Int.emod_eq_emod_iff_emod_sub_eq_zero]
  have q : (x - now - 1) % (N : Int) = (k : Int) % (N : Int) ↔ (x - now - 1 - (k : Int)) % (N : Int) = 0 := Int.emod_eq_emod_iff_emod_sub_eq_zero
  rw [e] at q
  rw [q, show x - (now + 1 + (k : Int)) = x - now - 1 - (k : Int) by omega]
theorem upW_cons (N : Nat) (x : Du) (l : List Du) (now t : Int) (k : Nat) (hN : 1 ≤ N) (hk : k ≤ N) : (upW N (x :: l) now t k).Perm ((if x.2 ≤ t ∧ (x.2 - now - 1) % (N : Int) < (k : Int) then [x] else []) ++ upW N l now t k) := by
  induction k with
  | zero =>
    rw [if_neg (by have := Int.emod_nonneg (x.2 - now - 1) (show (N : Int) ≠ 0 by omega); omega)]
    exact List.Perm.refl _
  | succ k ih =>
    have ih := ih (by omega)
    rw [upW_next, upW_next]
    have hm := mod_turn (N := N) (x := x.2) (now := now) (k := k) (by omega)
    have h0 := Int.emod_nonneg (x.2 - now - 1) (show (N : Int) ≠ 0 by omega)
    by_cases h : (x.2 - now - 1) % (N : Int) = (k : Int)
    · have e : slotL N (x :: l) ((now + 1 + k) % (N : Int)).toNat = x :: slotL N l ((now + 1 + k) % (N : Int)).toNat := by unfold slotL; rw [List.filter_cons_of_pos (by simpa using hm.2 h)]
      rw [if_neg (by omega), List.nil_append] at ih
      rw [e]
      by_cases ht : x.2 ≤ t
      · rw [List.filter_cons_of_pos (by simpa using ht), if_pos (by omega)]
        exact (ih.append_right _).trans List.perm_middle
      · rw [List.filter_cons_of_neg (by simpa using ht), if_neg (by omega)]
        exact ih.append_right _
    · have e : slotL N (x :: l) ((now + 1 + k) % (N : Int)).toNat = slotL N l ((now + 1 + k) % (N : Int)).toNat := by unfold slotL; rw [List.filter_cons_of_neg (by simpa using fun q => h (hm.1 q))]
      rw [e, ← List.append_assoc]
      have e2 : (if x.2 ≤ t ∧ (x.2 - now - 1) % (N : Int) < ((k + 1 : Nat) : Int) then [x] else []) = (if x.2 ≤ t ∧ (x.2 - now - 1) % (N : Int) < (k : Int) then [x] else []) := by
        by_cases q : x.2 ≤ t ∧ (x.2 - now - 1) % (N : Int) < (k : Int)
        · rw [if_pos q, if_pos (by omega)]
        · rw [if_neg q, if_neg (by omega)]
      rw [e2]
      exact ih.append_right _
/-- how many slots are passed on the way to a tick -/
def passW (N : Nat) (now t : Int) : Nat := min (t - now).toNat N
theorem mod_le {a : Int} {N : Nat} (h : 0 ≤ a) : a % (N : Int) ≤ a := by
  rw [Int.emod_def]
  have h1 : 0 ≤ a / (N : Int) := Int.ediv_nonneg h (by omega)
  have h2 : 0 ≤ (N : Int) * (a / (N : Int)) := Int.mul_nonneg (by omega) h1
  omega
theorem upW_all {N : Nat} (hN : 1 ≤ N) {now t : Int} : ∀ l : List Du, (∀ e ∈ l, now < e.2) → (upW N l now t (passW N now t)).Perm (l.filter fun e => decide (e.2 ≤ t))
  | [], _ => by
    have : upW N [] now t (passW N now t) = [] := by
      unfold upW
      rw [List.flatMap_eq_nil_iff]
      intro k _
      rfl
    rw [this]
    exact List.Perm.refl _
  | x :: l, h => by
    have h1 := h x List.mem_cons_self
    have ih := upW_all hN (now := now) (t := t) l (fun e he => h e (List.mem_cons_of_mem _ he))
    refine (upW_cons N x l now t _ hN (Nat.min_le_right _ _)).trans ?_
    unfold passW at *
    by_cases ht : x.2 ≤ t
    · have h2 := Int.emod_lt_of_pos (x.2 - now - 1) (show (0 : Int) < N by omega)
      have h3 := mod_le (N := N) (a := x.2 - now - 1) (by omega)
      rw [if_pos ⟨ht, by omega⟩, List.filter_cons_of_pos (by simpa using ht)]
      exact ih.cons x
    · rw [if_neg (by omega), List.filter_cons_of_neg (by simpa using ht)]
      exact ih
/-- of what is in order, that up to a tick stands ahead -/
theorem filt_while {l : List Du} (h : l.Pairwise (fun a b => aheadB a b = true)) (t : Int) : (l.filter fun e => decide (e.2 ≤ t)) = l.takeWhile fun e => decide (e.2 ≤ t) := by
  induction l with
  | nil => rfl
  | cons x l ih =>
    obtain ⟨h1, h2⟩ := List.pairwise_cons.1 h
    by_cases hx : x.2 ≤ t
    · rw [List.filter_cons_of_pos (by simpa using hx), List.takeWhile_cons_of_pos (by simpa using hx), ih h2]
    · rw [List.filter_cons_of_neg (by simpa using hx), List.takeWhile_cons_of_neg (by simpa using hx)]
      refine List.filter_eq_nil_iff.2 (fun e he => ?_)
      have := h1 e he
      rw [ahead_iff] at this
      simp
      omega
/-- what the first k slots hold -/
def upTo (N : Nat) (l : List Du) (k : Nat) : List Du := (List.range k).flatMap (slotL N l)
theorem upTo_next (N : Nat) (l : List Du) (k : Nat) : upTo N l (k + 1) = upTo N l k ++ slotL N l k := by
  unfold upTo
  rw [List.range_succ, List.flatMap_append, List.flatMap_cons, List.flatMap_nil, List.append_nil]
theorem upTo_len {N : Nat} {l : List Du} (h : l.length ≤ 256) (k : Nat) : (upTo N l k).length ≤ k * 256 := by
  induction k with
  | zero => simp [upTo]
  | succ k ih =>
    rw [upTo_next, List.length_append, Nat.succ_mul]
    have : (slotL N l k).length ≤ l.length := List.length_filter_le _ _
    omega
theorem upTo_cons (N : Nat) (x : Du) (l : List Du) (k : Nat) : (upTo N (x :: l) k).Perm ((if 0 ≤ x.2 % (N : Int) ∧ x.2 % (N : Int) < (k : Int) then [x] else []) ++ upTo N l k) := by
  induction k with
  | zero =>
    rw [if_neg (by omega)]
    exact List.Perm.refl _
  | succ k ih =>
    rw [upTo_next, upTo_next]
    by_cases h : x.2 % (N : Int) = (k : Int)
    · have e : slotL N (x :: l) k = x :: slotL N l k := by unfold slotL; rw [List.filter_cons_of_pos (by simpa using h)]
      rw [if_neg (by omega), List.nil_append] at ih
      rw [e, if_pos (by omega)]
      exact (ih.append_right _).trans List.perm_middle
    · have e : slotL N (x :: l) k = slotL N l k := by unfold slotL; rw [List.filter_cons_of_neg (by simpa using h)]
      rw [e, ← List.append_assoc]
      have e2 : (if 0 ≤ x.2 % (N : Int) ∧ x.2 % (N : Int) < ((k + 1 : Nat) : Int) then [x] else []) = (if 0 ≤ x.2 % (N : Int) ∧ x.2 % (N : Int) < (k : Int) then [x] else []) := by
        by_cases q : 0 ≤ x.2 % (N : Int) ∧ x.2 % (N : Int) < (k : Int)
        · rw [if_pos q, if_pos (by omega)]
        · rw [if_neg q, if_neg (by omega)]
      rw [e2]
      exact ih.append_right _
theorem upTo_all {N : Nat} (hN : 1 ≤ N) : ∀ l : List Du, (upTo N l N).Perm l
  | [] => by
    have : upTo N [] N = [] := by
      unfold upTo
      rw [List.flatMap_eq_nil_iff]
      intro k _
      rfl
    rw [this]
  | x :: l => by
    refine (upTo_cons N x l N).trans ?_
    rw [if_pos ⟨Int.emod_nonneg _ (by omega), Int.emod_lt_of_pos _ (by omega)⟩]
    exact (upTo_all hN l).cons x
theorem once_take : ∀ {m : List Kv} {id a : Int}, Once m → (id, a) ∈ m → m.Perm ((id, a) :: delM m id)
  | [], _, _, _, h => by cases h
  | x :: m, id, a, h, hm => by
    obtain ⟨h1, h2⟩ := List.pairwise_cons.1 h
    by_cases e : x.1 = id
    · have hx : x = (id, a) := by
        rcases List.mem_cons.1 hm with q | q
        · exact q.symm
        · exact absurd e (h1 _ q)
      subst hx
      have e1 : delM ((id, a) :: m) id = m := by
        unfold delM
        rw [List.filter_cons_of_neg (by simp)]
        exact List.filter_eq_self.2 (fun y hy => by simpa using fun q => h1 y hy q.symm)
      rw [e1]
    · have hm' : (id, a) ∈ m := by
        rcases List.mem_cons.1 hm with q | q
        · exact absurd (by rw [← q]) e
        · exact q
      have e1 : delM (x :: m) id = x :: delM m id := by
        unfold delM
        rw [List.filter_cons_of_pos (by simpa using e)]
      rw [e1]
      exact ((once_take h2 hm').cons x).trans (List.Perm.swap _ _ _)
end Go.Proofs.Ytcanaadcjipfjaa
