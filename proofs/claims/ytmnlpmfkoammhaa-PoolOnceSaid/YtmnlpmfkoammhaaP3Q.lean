/- Layer 3: the mathematics of PoolBack. -/
import Derived.Test.YtmnlpmfkoammhaaP3P
import Derived.Test.YtmnlpmfkoammhaaP3L
namespace Go.Proofs.Ytmnlpmfkoammhaa
open Go.RowKit
set_option linter.unusedVariables false
set_option linter.unusedSimpArgs false

theorem sameB_self (a : St) : sameB a a = true := by unfold sameB; rw [sameIB_self]; simp
/-- behind any number of Takes, told or not -/
def AheadInv (n i : Nat) (st : St) : Prop := ∃ live all has, ∃ j, j ≤ i ∧ OnceInv n j st live all has
theorem ahead_new {n : Nat} (h0 : 1 ≤ n) (h1 : n ≤ 64) : AheadInv n 0 (newN n).1 := ⟨[], [], [], 0, Nat.le_refl _, once_new h0 h1⟩
theorem ahead_take {n i : Nat} {st : St} (h : AheadInv n i st) (v : Int) : AheadInv n (i + 1) (takeN st v).1 := by
  obtain ⟨live, all, has, j, hj, I⟩ := h
  by_cases hlt : live.length < n
  · obtain ⟨x, -, -, I'⟩ := once_take I hlt v
    exact ⟨_, _, _, j + 1, by omega, I'⟩
  · rw [take_full I hlt v]
    exact ⟨live, all, has, j, by omega, I⟩
/-- either all live, and Take says so; or what PoolBack asks -/
theorem back_math {n i : Nat} {st : St} (h : AheadInv n i st) (hi : i ≤ 1000) (v : Int) :
    (takeN st v = (st, 0, 7) ∧ (hanN st).length = n) ∨
    ((takeN st v).2.2 = 0 ∧ (giveN (takeN st v).1 (takeN st v).2.1).2 = 0 ∧ (takeN (giveN (takeN st v).1 (takeN st v).2.1).1 v).2.2 = 0 ∧
      (takeN (giveN (takeN st v).1 (takeN st v).2.1).1 v).2.1 = (takeN st v).2.1 + 64 ∧
      getN (takeN (giveN (takeN st v).1 (takeN st v).2.1).1 v).1 (takeN (giveN (takeN st v).1 (takeN st v).2.1).1 v).2.1 = (v, true) ∧
      (getN (takeN (giveN (takeN st v).1 (takeN st v).2.1).1 v).1 (takeN st v).2.1).2 = false ∧
      (hanN (giveN (takeN st v).1 (takeN st v).2.1).1).length = (hanN st).length ∧
      (hanN (takeN (giveN (takeN st v).1 (takeN st v).2.1).1 v).1).length = (hanN (takeN st v).1).length) := by
  obtain ⟨live, all, has, j, hj, I⟩ := h
  by_cases hlt : live.length < n
  · right
    obtain ⟨k, hk, hl, hg, hcut, e1, ok1⟩ := take_ok (v := v) I.ok ((once_full I).1 hlt)
    have hkn : k < n := by rw [← I.len]; exact hk
    have hgj := I.gen k hkn
    have hx : (celAt (st.1.set k ((celAt st.1 k).1, true, v)) k) = ((celAt st.1 k).1, true, v) := by rw [celAt_set hk, if_pos rfl]
    have hk1 : k < (takeN st v).1.1.length := by rw [e1]; simpa using hk
    have hx1 : celAt (takeN st v).1.1 k = ((celAt st.1 k).1, true, v) := by rw [e1]; exact hx
    obtain ⟨e2, ok2⟩ := give_ok ok1 hk1 (by rw [hx1]) (by rw [hx1]; show (celAt st.1 k).1 + 1 < _; omega)
    have hh : 64 * (celAt (takeN st v).1.1 k).1 + (k : Int) = (takeN st v).2.1 := by rw [hx1, e1]
    rw [hh] at e2 ok2
    obtain ⟨X, hX⟩ : ∃ X, takeN st v = X := ⟨_, rfl⟩
    rw [hX] at e1 ok1 hk1 hx1 e2 ok2 hh ⊢
    obtain ⟨Y, hY⟩ : ∃ Y, giveN X.1 X.2.1 = Y := ⟨_, rfl⟩
    rw [hY] at e2 ok2 ⊢
    have hy2 : Y.1.2 = X.1.2 ++ [(k : Int)] := by rw [e2]
    obtain ⟨k2, hk2, hl2, hg2, hcut2, e3, ok3⟩ := take_ok (v := v) ok2 (by rw [hy2]; simp)
    obtain rfl : k2 = k := by
      have h1 : Y.1.2.getLast? = some (k : Int) := by rw [hy2]; simp
      have h2 : Y.1.2.getLast? = some (k2 : Int) := by rw [hcut2]; simp
      rw [h1] at h2
      have := Option.some.inj h2
      omega
    have hy1 : celAt Y.1.1 k2 = ((celAt st.1 k2).1 + 1, false, 0) := by
      rw [e2]
      show celAt (X.1.1.set k2 _) k2 = _
      rw [celAt_set hk1, if_pos rfl, hx1]
    obtain ⟨Z, hZ⟩ : ∃ Z, takeN Y.1 v = Z := ⟨_, rfl⟩
    rw [hZ] at e3 ok3 ⊢
    have hz1 : celAt Z.1.1 k2 = ((celAt st.1 k2).1 + 1, true, v) := by
      rw [e3]
      show celAt (Y.1.1.set k2 _) k2 = _
      rw [celAt_set hk2, if_pos rfl, hy1]
    have hkz : k2 < Z.1.1.length := by rw [e3]; simpa using hk2
    have hzh : Z.2.1 = 64 * (celAt Z.1.1 k2).1 + k2 := by rw [hz1, e3, hy1]
    have hc1 := cnt_set st.1 k2 ((celAt st.1 k2).1, true, v) hk
    have hc2 := cnt_set X.1.1 k2 ((celAt X.1.1 k2).1 + 1, false, 0) hk1
    have hc3 := cnt_set Y.1.1 k2 ((celAt Y.1.1 k2).1, true, v) hk2
    rw [hl] at hc1
    rw [hx1] at hc2
    rw [hy1] at hc3
    simp only [Bool.false_eq_true, if_false, if_true] at hc1 hc2 hc3
    have hX1 : X.1.1 = st.1.set k2 ((celAt st.1 k2).1, true, v) := by rw [e1]
    have hY1 : Y.1.1 = X.1.1.set k2 ((celAt st.1 k2).1 + 1, false, 0) := by rw [e2, hx1]
    have hZ1 : Z.1.1 = Y.1.1.set k2 ((celAt st.1 k2).1 + 1, true, v) := by rw [e3, hy1]
    have h64 := ok3.2.1
    refine ⟨by rw [e1], by rw [e2], by rw [e3], by rw [hzh, ← hh, hz1, hx1]; show 64 * ((celAt st.1 k2).1 + 1) + (k2 : Int) = 64 * (celAt st.1 k2).1 + k2 + 64; omega, ?_, ?_, ?_, ?_⟩
    · rw [getN_yes (chk_iff.2 ok3) (by rw [hzh]; exact place_yes ok3 hkz (by rw [hz1])) hkz, ← celAt_lt _ _ hkz, hz1]
    · rw [getN_no2]
      refine place_no ok3 (fun q hq hlq heq => ?_)
      rw [← hh, hx1] at heq
      have heq : 64 * (celAt Z.1.1 q).1 + (q : Int) = 64 * (celAt st.1 k2).1 + k2 := heq
      have hqk : q = k2 := by omega
      rw [hqk, hz1] at heq
      have heq : 64 * ((celAt st.1 k2).1 + 1) + (k2 : Int) = 64 * (celAt st.1 k2).1 + k2 := heq
      omega
    · rw [hanN_cnt ok2, hanN_cnt I.ok]
      have a1 : cnt X.1.1 = cnt st.1 + 1 := by rw [hX1]; omega
      have a2 : cnt Y.1.1 + 1 = cnt X.1.1 := by rw [hY1]; exact hc2
      omega
    · rw [hanN_cnt ok3, hanN_cnt ok1]
      have a1 : cnt X.1.1 = cnt st.1 + 1 := by rw [hX1]; omega
      have a2 : cnt Y.1.1 + 1 = cnt X.1.1 := by rw [hY1]; exact hc2
      have a3 : cnt Z.1.1 = cnt Y.1.1 + 1 := by rw [hZ1]; exact hc3
      omega
  · left
    refine ⟨take_full I hlt v, ?_⟩
    rw [hanN_cnt I.ok]
    have h1 := I.fre
    have h2 := I.liv
    omega
end Go.Proofs.Ytmnlpmfkoammhaa
