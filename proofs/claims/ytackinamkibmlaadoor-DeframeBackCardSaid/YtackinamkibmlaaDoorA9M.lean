/- Layer 9: what is printed is parsed as it was: mathematics. -/
import Derived.Test.YtackinamkibmlaaDoorA9E
namespace Go.Proofs.YtackinamkibmlaaDoor
open Go.RowKit
set_option linter.unusedVariables false
set_option linter.unusedSimpArgs false

theorem ba_list (l : List UInt8) : (⟨l.toArray⟩ : ByteArray).data.toList = l := rfl
theorem app_list (a b : ByteArray) : (a ++ b).data.toList = a.data.toList ++ b.data.toList := by simp
theorem find_app {c : Nat} {l r : List UInt8} {b : UInt8} (hl : ∀ x ∈ l, x.toNat ≠ c) (hb : b.toNat = c) : findL c (l ++ b :: r) = l.length := by
  unfold findL
  rw [List.findIdx_eq (by simp)]
  refine ⟨by simp [hb], fun j hj => ?_⟩
  rw [List.getElem_append_left hj]
  simpa using hl _ (List.getElem_mem hj)
theorem find_no {c : Nat} {l : List UInt8} (hl : ∀ x ∈ l, x.toNat ≠ c) : findL c l = l.length := by
  unfold findL
  rw [List.findIdx_eq_length]
  intro x hx
  simpa using hl x hx
theorem low_id {l : List UInt8} (h : ∀ x ∈ l, ¬ (65 ≤ x.toNat ∧ x.toNat ≤ 90)) : lowL l = l := by
  unfold lowL
  conv => rhs; rw [← List.map_id l]
  exact List.map_congr_left fun x hx => lowU_out x (h x hx)
theorem nameB_at {l : List UInt8} (h : nameB l = true) : ∀ x ∈ l, x.toNat ≠ 64 ∧ x.toNat ≠ 47 ∧ ¬ (65 ≤ x.toNat ∧ x.toNat ≤ 90) := by
  intro x hx
  unfold nameB at h
  rw [Bool.and_eq_true] at h
  have := List.all_eq_true.1 h.1 x hx
  unfold nmOk at this
  rw [decide_eq_true_iff] at this
  omega
theorem hostB_at {l : List UInt8} (h : hostB l = true) : ∀ x ∈ l, x.toNat ≠ 64 ∧ x.toNat ≠ 47 ∧ ¬ (65 ≤ x.toNat ∧ x.toNat ≤ 90) := by
  intro x hx
  obtain ⟨j, hj, rfl⟩ := List.mem_iff_getElem.1 hx
  unfold hostB at h
  have h1 := List.all_eq_true.1 h j (List.mem_range.2 hj)
  have h2 : l.getD j 0 = l[j] := by simp [List.getD, hj]
  rw [h2] at h1
  generalize l[j] = y at h1
  have h3 : hsBad l.length j y (l.getD (j - 1) 0) = false := by simpa using h1
  unfold hsBad at h3
  rw [Bool.or_eq_false_iff] at h3
  have h4 := h3.1
  cases hl : ltB y with
  | true =>
    unfold ltB at hl
    rw [decide_eq_true_iff] at hl
    omega
  | false =>
    rw [hl] at h4
    simp at h4
    omega
/-- what Check lets pass -/
theorem achk_ok {n h r : ByteArray} (H : chkA n h r = 0) : (n.size ≤ 16 ∧ h.size ≤ 16 ∧ r.size ≤ 12) ∧ (0 < n.size ∧ 0 < h.size) ∧ nameB n.data.toList = true ∧ hostB h.data.toList = true ∧ plB r.data.toList = true := by
  unfold chkA at H
  split at H
  · cases H
  · rename_i hl
    split at H
    · cases H
    · rename_i hn
      split at H
      · rename_i ht
        unfold longB at hl
        unfold noneB at hn
        unfold txtB at ht
        simp only [Bool.or_eq_true, decide_eq_true_eq, Bool.and_eq_true] at hl hn ht
        exact ⟨by omega, by omega, ht⟩
      · cases H
theorem achk_mk {n h r : ByteArray} (h1 : n.size ≤ 16 ∧ h.size ≤ 16 ∧ r.size ≤ 12) (h2 : 0 < n.size ∧ 0 < h.size) (h3 : nameB n.data.toList = true) (h4 : hostB h.data.toList = true) (h5 : plB r.data.toList = true) : chkA n h r = 0 := by
  have hL : longB n h r = false := by unfold longB; rw [decide_eq_false (by omega), decide_eq_false (by omega), decide_eq_false (by omega)]; rfl
  have hN : noneB n h = false := by unfold noneB; rw [decide_eq_false (by omega), decide_eq_false (by omega)]; rfl
  unfold chkA
  rw [if_neg (by rw [hL]; decide), if_neg (by rw [hN]; decide), if_pos (by unfold txtB; rw [h3, h4, h5]; rfl)]
theorem chk_bare {n h r : ByteArray} (H : chkA n h r = 0) : chkA n h ⟨#[]⟩ = 0 := by
  obtain ⟨h1, h2, h3, h4, h5⟩ := achk_ok H
  exact achk_mk ⟨h1.1, h1.2.1, by decide⟩ h2 h3 h4 rfl
theorem res_ok {n h r : ByteArray} (H : chkA n h r = 0) : resE r = 0 := by
  obtain ⟨h1, h2, h3, h4, h5⟩ := achk_ok H
  unfold resE
  rw [if_neg (by omega), if_pos h5]
/-- the text of an address that may be, as a list -/
theorem join_list (n h r : ByteArray) : (joinT n h r).data.toList = n.data.toList ++ (64 :: h.data.toList) ++ (if r.size = 0 then [] else 47 :: r.data.toList) := by
  unfold joinT
  split
  · rw [app_list, app_list, List.append_nil]
    simp
  · rw [app_list, app_list, app_list, app_list]
    simp
theorem ex_list2 (s : ByteArray) (i j : Nat) : (s.extract i j).data.toList = (s.data.toList.take j).drop i := by
  simp [List.extract_eq_take_drop, List.drop_take]
set_option maxHeartbeats 1000000 in
theorem par_join {n h r : ByteArray} (H : chkA n h r = 0) : parE (joinT n h r) = 0 ∧ nmP (joinT n h r) = n ∧ hsP (joinT n h r) = h ∧ rsP (joinT n h r) = r := by
  obtain ⟨h1, h2, h3, h4, h5⟩ := achk_ok H
  have hna := nameB_at h3
  have hho := hostB_at h4
  have hjl := join_list n h r
  obtain ⟨t, ht⟩ : ∃ t, joinT n h r = t := ⟨_, rfl⟩
  rw [ht] at hjl ⊢
  have hns := sz_list n
  have hhs := sz_list h
  have hrs := sz_list r
  have hts := sz_list t
  have hf : ∀ x ∈ n.data.toList ++ (64 :: h.data.toList), x.toNat ≠ 47 ∧ ¬ (65 ≤ x.toNat ∧ x.toNat ≤ 90) := by
    intro x hx
    rcases List.mem_append.1 hx with hx | hx
    · exact ⟨(hna x hx).2.1, (hna x hx).2.2⟩
    · rcases List.mem_cons.1 hx with rfl | hx
      · decide
      · exact ⟨(hho x hx).2.1, (hho x hx).2.2⟩
  have hlen : (n.data.toList ++ (64 :: h.data.toList)).length = n.size + 1 + h.size := by simp; omega
  have hsl : slN t = n.size + 1 + h.size := by
    unfold slN
    rw [hjl]
    split
    · rw [List.append_nil, find_no (fun x hx => (hf x hx).1), hlen]
    · rw [find_app (fun x hx => (hf x hx).1) rfl, hlen]
  have hfl : (frB t).data.toList = n.data.toList ++ (64 :: h.data.toList) := by
    unfold frB
    show lowL (t.extract 0 (slN t)).data.toList = _
    rw [ex_list2, hsl, hjl, List.drop_zero, ← hlen, List.take_left']
    · exact low_id (fun x hx => (hf x hx).2)
    · rfl
  have hfs : (frB t).size = n.size + 1 + h.size := by rw [sz_list, hfl, hlen]
  have hat : atN t = n.size := by
    unfold atN
    rw [hfl, find_app (fun x hx => (hna x hx).1) rfl, hns]
  have hnm : nmP t = n := by
    refine ba_ext ?_
    unfold nmP
    rw [ex_list2, hfl, hat, hns, List.drop_zero, List.take_left']
    rfl
  have hhp : hsP t = h := by
    refine ba_ext ?_
    unfold hsP
    rw [ex_list2, hfl, hat, hfs, List.take_of_length_le (Nat.le_of_eq hlen), hns]
    rw [show n.data.toList.length + 1 = (n.data.toList ++ [64]).length by simp, show n.data.toList ++ 64 :: h.data.toList = (n.data.toList ++ [64]) ++ h.data.toList by simp, List.drop_left']
    rfl
  have hrp : rsP t = r := by
    unfold rsP
    by_cases hr0 : r.size = 0
    · rw [if_pos hr0, List.append_nil] at hjl
      rw [if_neg (by rw [hsl, hts, hjl, hlen]; omega)]
      refine ba_ext ?_
      have : r.data.toList = [] := List.eq_nil_of_length_eq_zero (by rw [← hrs]; exact hr0)
      rw [this]
    · rw [if_neg hr0] at hjl
      have hts2 : t.size = n.size + 1 + h.size + 1 + r.size := by rw [hts, hjl]; simp; omega
      rw [if_pos (by omega)]
      refine ba_ext ?_
      rw [ex_list2, List.take_of_length_le (by rw [← hts]; exact Nat.le_refl _), hjl, hsl]
      rw [show n.size + 1 + h.size + 1 = (n.data.toList ++ 64 :: h.data.toList ++ [47]).length by rw [List.length_append, hlen]; rfl, show n.data.toList ++ 64 :: h.data.toList ++ 47 :: r.data.toList = (n.data.toList ++ 64 :: h.data.toList ++ [47]) ++ r.data.toList by simp, List.drop_left']
      rfl
  refine ⟨?_, hnm, hhp, hrp⟩
  have hform : formB t = false := by
    unfold formB
    rw [hat, hfs, hsl]
    have hts2 : t.size ≠ n.size + 1 + h.size + 1 := by
      rw [hts, hjl, List.length_append, hlen]
      split
      · show n.size + 1 + h.size + 0 ≠ n.size + 1 + h.size + 1
        omega
      · rename_i hr0
        show n.size + 1 + h.size + (r.data.toList.length + 1) ≠ n.size + 1 + h.size + 1
        omega
    rw [decide_eq_false (by omega), decide_eq_false (fun e => hts2 e.symm)]
    rfl
  unfold parE
  rw [if_neg (by rw [hform]; decide), hnm, hhp, hrp]
  exact H
/-- what is parsed may be -/
theorem par_chk {s : ByteArray} (h : parE s = 0) : chkA (nmP s) (hsP s) (rsP s) = 0 := by
  unfold parE at h
  split at h
  · cases h
  · exact h
end Go.Proofs.YtackinamkibmlaaDoor
