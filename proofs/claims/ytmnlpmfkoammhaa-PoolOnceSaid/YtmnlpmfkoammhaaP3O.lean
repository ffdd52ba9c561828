/- Layer 3: the mathematics of PoolOnce: what stands behind any number of acts. -/
import Derived.Test.YtmnlpmfkoammhaaP3N
namespace Go.Proofs.Ytmnlpmfkoammhaa
open Go.RowKit
set_option linter.unusedVariables false
set_option linter.unusedSimpArgs false

/-- how many cells live -/
def cnt : List Cel → Nat
  | [] => 0
  | c :: r => (if c.2.1 = true then 1 else 0) + cnt r
theorem hanF_cnt (l : List Cel) : ∀ k, (hanF l k).length = cnt l := by
  induction l with
  | nil => intro k; rfl
  | cons c r ih =>
    intro k
    unfold hanF cnt
    split <;> simp [ih, Nat.add_comm]
theorem hanN_cnt {st : St} (h : OkSt st) : (hanN st).length = cnt st.1 := by
  unfold hanN; rw [if_pos (chk_iff.2 h), hanF_cnt]
theorem cnt_set (l : List Cel) : ∀ (k : Nat) (c : Cel), k < l.length → cnt (l.set k c) + (if (celAt l k).2.1 = true then 1 else 0) = cnt l + (if c.2.1 = true then 1 else 0) := by
  induction l with
  | nil => intro k c h; cases h
  | cons d r ih =>
    intro k c h
    match k, h with
    | 0, h =>
      rw [List.set_cons_zero]
      have e : celAt (d :: r) 0 = d := rfl
      rw [e]
      unfold cnt
      omega
    | k + 1, h =>
      have h' : k < r.length := by rw [List.length_cons] at h; omega
      have := ih k c h'
      rw [List.set_cons_succ]
      unfold cnt
      have e : celAt (d :: r) (k + 1) = celAt r k := by unfold celAt; simp [List.getD]
      rw [e]; omega
theorem cnt_new (k : Nat) : cnt (List.replicate k zeroC) = 0 := by
  induction k with
  | zero => rfl
  | succ k ih => rw [List.replicate_succ]; unfold cnt; rw [ih]; rfl

/-- what stands behind i acts: live: the handles; has: their values; all: all handles that were ever told -/
def OnceInv (n i : Nat) (st : St) (live all has : List Int) : Prop :=
  OkSt st ∧ st.1.length = n ∧ st.2.length + cnt st.1 = n ∧ (∀ j, j < n → (celAt st.1 j).1 ≤ i) ∧ live.length = cnt st.1 ∧ has.length = live.length ∧ live.Nodup ∧
  (∀ t (h1 : t < live.length) (h2 : t < has.length), ∃ j, j < n ∧ (celAt st.1 j).2.1 = true ∧ live[t] = 64 * (celAt st.1 j).1 + j ∧ (celAt st.1 j).2.2 = has[t]) ∧
  ∀ h ∈ all, ∃ (j : Nat) (g : Int), j < n ∧ h = 64 * g + j ∧ (g < (celAt st.1 j).1 ∨ (g = (celAt st.1 j).1 ∧ (celAt st.1 j).2.1 = true))
section
variable {n i : Nat} {st : St} {live all has : List Int}
theorem OnceInv.ok (h : OnceInv n i st live all has) : OkSt st := h.1
theorem OnceInv.len (h : OnceInv n i st live all has) : st.1.length = n := h.2.1
theorem OnceInv.fre (h : OnceInv n i st live all has) : st.2.length + cnt st.1 = n := h.2.2.1
theorem OnceInv.gen (h : OnceInv n i st live all has) : ∀ j, j < n → (celAt st.1 j).1 ≤ i := h.2.2.2.1
theorem OnceInv.liv (h : OnceInv n i st live all has) : live.length = cnt st.1 := h.2.2.2.2.1
theorem OnceInv.hal (h : OnceInv n i st live all has) : has.length = live.length := h.2.2.2.2.2.1
theorem OnceInv.nod (h : OnceInv n i st live all has) : live.Nodup := h.2.2.2.2.2.2.1
theorem OnceInv.val (h : OnceInv n i st live all has) : ∀ t (h1 : t < live.length) (h2 : t < has.length), ∃ j, j < n ∧ (celAt st.1 j).2.1 = true ∧ live[t] = 64 * (celAt st.1 j).1 + j ∧ (celAt st.1 j).2.2 = has[t] := h.2.2.2.2.2.2.2.1
theorem OnceInv.old (h : OnceInv n i st live all has) : ∀ h ∈ all, ∃ (j : Nat) (g : Int), j < n ∧ h = 64 * g + j ∧ (g < (celAt st.1 j).1 ∨ (g = (celAt st.1 j).1 ∧ (celAt st.1 j).2.1 = true)) := h.2.2.2.2.2.2.2.2
end

theorem once_new {n : Nat} (h0 : 1 ≤ n) (h1 : n ≤ 64) : OnceInv n 0 (newN n).1 [] [] [] := by
  obtain ⟨e, ok⟩ := new_ok (n := (n : Int)) (by omega) (by omega)
  rw [e] at ok ⊢
  rw [Int.toNat_natCast] at ok ⊢
  have hz : ∀ j, j < n → celAt (List.replicate n zeroC) j = zeroC := fun j hj => by
    rw [celAt_lt _ _ (by simpa using hj), List.getElem_replicate]
  exact ⟨ok, by simp, by simp [freeL_len, cnt_new], fun j hj => by rw [hz j hj]; decide, by simp [cnt_new], rfl, List.nodup_nil, (fun t h1 => by cases h1), (fun h hh => by cases hh)⟩

/-- Take hands out just where fewer live than there are cells -/
theorem once_full {n i : Nat} {st : St} {live all has : List Int} (I : OnceInv n i st live all has) : (live.length < n) ↔ st.2 ≠ [] := by
  have h1 := I.fre
  have h2 := I.liv
  rw [← List.length_pos_iff]
  omega
theorem take_full {n i : Nat} {st : St} {live all has : List Int} (I : OnceInv n i st live all has) (hn : ¬ live.length < n) (v : Int) : takeN st v = (st, 0, 7) := by
  have : st.2.length = 0 := by have h1 := I.fre; have h2 := I.liv; omega
  unfold takeN
  rw [if_neg (fun x => x (chk_iff.2 I.ok)), if_pos this]
theorem once_take {n i : Nat} {st : St} {live all has : List Int} (I : OnceInv n i st live all has) (hlt : live.length < n) (v : Int) :
    ∃ h : Int, (takeN st v).2 = (h, 0) ∧ ¬ h ∈ all ∧ OnceInv n (i + 1) (takeN st v).1 (live ++ [h]) (all ++ [h]) (has ++ [v]) := by
  obtain ⟨k, hk, hl, hg, hcut, e, ok⟩ := take_ok (v := v) I.ok ((once_full I).1 hlt)
  have hkn : k < n := by rw [← I.len]; exact hk
  obtain ⟨h1, h2, h3, -⟩ := I.ok
  refine ⟨64 * (celAt st.1 k).1 + k, by rw [e], fun hx => ?_, ?_⟩
  · obtain ⟨j, g, hj, hh, ho⟩ := I.old _ hx
    have h64 : n ≤ 64 := by rw [← I.len]; exact h2
    obtain ⟨rfl, rfl⟩ : j = k ∧ g = (celAt st.1 k).1 := by omega
    rcases ho with ho | ⟨-, ho⟩
    · omega
    · rw [hl] at ho; cases ho
  · rw [e] at ok ⊢
    have hc := cnt_set st.1 k ((celAt st.1 k).1, true, v) hk
    rw [hl] at hc
    simp only [Bool.false_eq_true, if_false, if_true] at hc
    have hf := I.fre
    have hll := I.liv
    have h64 : n ≤ 64 := by rw [← I.len]; exact h2
    have hne : ∀ t (h1 : t < live.length) (h2 : t < has.length) j, j < n → (celAt st.1 j).2.1 = true → j ≠ k := fun t _ _ j hj hlj e => by rw [e, hl] at hlj; cases hlj
    refine ⟨ok, by simpa using I.len, ?_, fun j hj => ?_, by rw [List.length_append, List.length_singleton]; show live.length + 1 = cnt (st.1.set k _); omega, by rw [List.length_append, List.length_append, I.hal]; rfl, ?_, fun t t1 t2 => ?_, fun h hh => ?_⟩
    · show (st.2.take (st.2.length - 1)).length + cnt (st.1.set k _) = n
      rw [List.length_take]; omega
    · show (celAt (st.1.set k _) j).1 ≤ _
      rw [celAt_set hk]
      have := I.gen j hj
      split
      · have := I.gen k hkn; show (celAt st.1 k).1 ≤ _; omega
      · omega
    · refine List.nodup_append.2 ⟨I.nod, by simp, fun x hx y hy exy => ?_⟩
      rw [List.mem_singleton.1 hy] at exy
      obtain ⟨t, ht, rfl⟩ := List.mem_iff_getElem.1 hx
      obtain ⟨j, hj, hlj, hv, -⟩ := I.val t ht (by rw [I.hal]; exact ht)
      have : j = k := by omega
      rw [this, hl] at hlj; cases hlj
    · by_cases ht : t < live.length
      · obtain ⟨j, hj, hlj, hv, hx⟩ := I.val t ht (by rw [I.hal]; exact ht)
        have hjk : j ≠ k := fun e => by rw [e, hl] at hlj; cases hlj
        refine ⟨j, hj, ?_, ?_, ?_⟩
        · show (celAt (st.1.set k _) j).2.1 = true
          rw [celAt_set hk, if_neg hjk]; exact hlj
        · show _ = 64 * (celAt (st.1.set k _) j).1 + j
          rw [celAt_set hk, if_neg hjk, List.getElem_append_left ht]; exact hv
        · show (celAt (st.1.set k _) j).2.2 = _
          rw [celAt_set hk, if_neg hjk, List.getElem_append_left (by rw [I.hal]; exact ht)]; exact hx
      · have hte : t = live.length := by rw [List.length_append, List.length_singleton] at t1; omega
        subst hte
        refine ⟨k, hkn, ?_, ?_, ?_⟩
        · show (celAt (st.1.set k _) k).2.1 = true
          rw [celAt_set hk, if_pos rfl]
        · show _ = 64 * (celAt (st.1.set k _) k).1 + k
          rw [celAt_set hk, if_pos rfl]; simp
        · show (celAt (st.1.set k _) k).2.2 = _
          rw [celAt_set hk, if_pos rfl]
          simp [← I.hal]
    · rcases List.mem_append.1 hh with hx | hx
      · obtain ⟨j, g, hj, he, ho⟩ := I.old h hx
        refine ⟨j, g, hj, he, ?_⟩
        show g < (celAt (st.1.set k _) j).1 ∨ (g = (celAt (st.1.set k _) j).1 ∧ (celAt (st.1.set k _) j).2.1 = true)
        rw [celAt_set hk]
        split
        · rename_i e; rw [e] at ho
          rcases ho with ho | ⟨ho, -⟩
          · left; exact ho
          · right; exact ⟨ho, rfl⟩
        · exact ho
      · rw [List.mem_singleton.1 hx]
        refine ⟨k, (celAt st.1 k).1, hkn, rfl, ?_⟩
        right
        show (celAt st.1 k).1 = (celAt (st.1.set k _) k).1 ∧ (celAt (st.1.set k _) k).2.1 = true
        rw [celAt_set hk, if_pos rfl]; exact ⟨rfl, rfl⟩
end Go.Proofs.Ytmnlpmfkoammhaa
