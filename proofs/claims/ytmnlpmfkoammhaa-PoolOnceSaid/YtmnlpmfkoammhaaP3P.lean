/- Layer 3: the mathematics of PoolOnce: what is given back; what stands throughout. -/
import Derived.Test.YtmnlpmfkoammhaaP3O
namespace Go.Proofs.Ytmnlpmfkoammhaa
open Go.RowKit
set_option linter.unusedVariables false
set_option linter.unusedSimpArgs false

/-- without the t-th -/
def dropAt (l : List Int) (t : Nat) : List Int := l.take t ++ l.drop (t + 1)
theorem dropAt_eq (l : List Int) (t : Nat) : dropAt l t = l.eraseIdx t := by unfold dropAt; rw [List.eraseIdx_eq_take_drop_succ]
theorem dropAt_len {l : List Int} {t : Nat} (h : t < l.length) : (dropAt l t).length + 1 = l.length := by
  rw [dropAt_eq, List.length_eraseIdx, if_pos h]; omega
theorem dropAt_get {l : List Int} {t : Nat} (h : t < l.length) (s : Nat) (hs : s < (dropAt l t).length) : ∃ q, ∃ hq : q < l.length, q ≠ t ∧ (q = if s < t then s else s + 1) ∧ (dropAt l t)[s] = l[q] := by
  have hl := dropAt_len h
  by_cases hst : s < t
  · refine ⟨s, by omega, by omega, by rw [if_pos hst], ?_⟩
    simp only [dropAt_eq, List.getElem_eraseIdx, dif_pos hst]
  · refine ⟨s + 1, by omega, by omega, by rw [if_neg hst], ?_⟩
    simp only [dropAt_eq, List.getElem_eraseIdx, dif_neg hst]
theorem nodup_ne {l : List Int} (h : l.Nodup) {a b : Nat} (ha : a < l.length) (hb : b < l.length) (hne : a ≠ b) : l[a] ≠ l[b] := by
  unfold List.Nodup at h
  rw [List.pairwise_iff_getElem] at h
  rcases Nat.lt_or_ge a b with hlt | hge
  · exact h a b ha hb hlt
  · exact fun e => h b a hb ha (by omega) e.symm

theorem once_give {n i : Nat} {st : St} {live all has : List Int} (I : OnceInv n i st live all has) (hi : i ≤ 1000000) {t : Nat} (ht : t < live.length) :
    (giveN st live[t]).2 = 0 ∧ (giveN (giveN st live[t]).1 live[t]).2 = 6 ∧ OnceInv n (i + 1) (giveN st live[t]).1 (dropAt live t) all (dropAt has t) := by
  obtain ⟨k, hkn, hl, hv, hx⟩ := I.val t ht (by rw [I.hal]; exact ht)
  have hk : k < st.1.length := by rw [I.len]; exact hkn
  have hgk := I.gen k hkn
  obtain ⟨e, ok⟩ := give_ok I.ok hk hl (by omega)
  rw [← hv] at e ok
  obtain ⟨h1, h2, h3, -⟩ := I.ok
  have h64 : n ≤ 64 := by rw [← I.len]; exact h2
  have hth : t < has.length := by rw [I.hal]; exact ht
  have hno : placeN (giveN st live[t]).1.1 live[t] = -1 := by
    refine place_no ok (fun q hq hlq heq => ?_)
    rw [e] at hq hlq heq
    have hq' : q < n := by rw [← I.len]; simpa using hq
    rw [celAt_set hk] at hlq heq
    by_cases hqk : q = k
    · rw [if_pos hqk] at hlq; cases hlq
    · rw [if_neg hqk] at heq; omega
  have hc := cnt_set st.1 k ((celAt st.1 k).1 + 1, false, 0) hk
  rw [hl] at hc
  simp only [Bool.false_eq_true, if_false, if_true] at hc
  have hf := I.fre
  have hll := I.liv
  refine ⟨by rw [e], ?_, ?_⟩
  · have hchk := chk_iff.2 ok
    unfold giveN
    rw [if_neg (fun x => x (by simpa [giveN] using hchk)), if_pos]
    have := hno
    unfold giveN at this
    rw [this]; decide
  · rw [e] at ok ⊢
    have d1 := dropAt_len ht
    have d2 := dropAt_len hth
    have hh := I.hal
    refine ⟨ok, by simpa using I.len, ?_, fun j hj => ?_, ?_, by omega, ?_, fun s s1 s2 => ?_, fun h hh => ?_⟩
    · show (st.2 ++ [(k : Int)]).length + cnt (st.1.set k _) = n
      rw [List.length_append, List.length_singleton]; omega
    · show (celAt (st.1.set k _) j).1 ≤ _
      rw [celAt_set hk]
      have := I.gen j hj
      split
      · show (celAt st.1 k).1 + 1 ≤ _; omega
      · omega
    · show (dropAt live t).length = cnt (st.1.set k _); omega
    · rw [dropAt_eq]; exact I.nod.sublist (List.eraseIdx_sublist _ _)
    · obtain ⟨q, hq, hqt, hqs, hqe⟩ := dropAt_get ht s s1
      obtain ⟨q', hq', -, hqs', hqe'⟩ := dropAt_get hth s s2
      obtain rfl : q' = q := by rw [hqs, hqs']
      obtain ⟨j, hj, hlj, hvj, hxj⟩ := I.val q' hq hq'
      have hjk : j ≠ k := fun e => by
        have := nodup_ne I.nod hq ht hqt
        rw [hvj, hv, e] at this
        exact this rfl
      refine ⟨j, hj, ?_, ?_, ?_⟩
      · show (celAt (st.1.set k _) j).2.1 = true
        rw [celAt_set hk, if_neg hjk]; exact hlj
      · show _ = 64 * (celAt (st.1.set k _) j).1 + j
        rw [celAt_set hk, if_neg hjk, hqe]; exact hvj
      · show (celAt (st.1.set k _) j).2.2 = _
        rw [celAt_set hk, if_neg hjk, hqe']; exact hxj
    · obtain ⟨j, g, hj, he, ho⟩ := I.old h hh
      refine ⟨j, g, hj, he, ?_⟩
      show g < (celAt (st.1.set k _) j).1 ∨ (g = (celAt (st.1.set k _) j).1 ∧ (celAt (st.1.set k _) j).2.1 = true)
      rw [celAt_set hk]
      split
      · rename_i e; rw [e] at ho
        left; show g < (celAt st.1 k).1 + 1
        rcases ho with ho | ⟨ho, -⟩ <;> omega
      · exact ho
/-- what is told throughout -/
theorem once_tells {n i : Nat} {st : St} {live all has : List Int} (I : OnceInv n i st live all has) : chkN st = 0 ∧ (hanN st).length = live.length ∧ st.1.length = n ∧ ∀ t (ht : t < live.length) (ht2 : t < has.length), getN st live[t] = (has[t], true) := by
  refine ⟨chk_iff.2 I.ok, by rw [hanN_cnt I.ok, I.liv], I.len, fun t ht ht2 => ?_⟩
  obtain ⟨k, hkn, hl, hv, hx⟩ := I.val t ht ht2
  have hk : k < st.1.length := by rw [I.len]; exact hkn
  rw [getN_yes (chk_iff.2 I.ok) (by rw [hv]; exact place_yes I.ok hk hl) hk, ← celAt_lt _ _ hk, hx]
end Go.Proofs.Ytmnlpmfkoammhaa
