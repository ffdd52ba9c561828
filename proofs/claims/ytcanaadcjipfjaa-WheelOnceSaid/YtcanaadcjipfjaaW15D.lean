/- Layer 15, the document's: time goes on; how many in each slot. -/
import Derived.Test.YtcanaadcjipfjaaW15C
namespace Go.Proofs.Ytcanaadcjipfjaa
open Go.RowKit
set_option linter.unusedVariables false
set_option linter.unusedSimpArgs false

theorem IsL.nil (w : World) : IsL w (.slice none 0 0) [] := ⟨IsR.nil _ _ _, none, 0, rfl, Nat.le_refl _, .inl rfl⟩
theorem IsL.sub {w : World} {b off cap : Nat} {L : List Du} (h : IsL w (.slice (some ⟨b, off, none⟩) L.length cap) L) {i n c o : Nat} (hin : i + n ≤ L.length) (ho : o = off + i * 2) (hc : n ≤ c) :
    IsL w (.slice (some ⟨b, o, none⟩) n c) ((L.drop i).take n) := by
  have e : ((L.drop i).take n).length = n := by rw [List.length_take, List.length_drop]; omega
  exact ⟨isR_sub h.1.cut hin ho, _, c, by rw [e], by rw [e]; exact hc, .inr ⟨b, o, rfl⟩⟩
theorem isL_none (w : World) (b o c : Nat) : IsL w (.slice (some ⟨b, o, none⟩) 0 c) [] := ⟨isR_none _ _ _, _, c, rfl, Nat.zero_le _, .inr ⟨b, o, rfl⟩⟩
/-- a slice's part lies where the slice lies -/
macro "own15" : tactic => `(tactic| (intro q hq; first | exact hq | (cases hq; done) | (first | exact hq | (split at hq <;> exact hq) | (revert hq; split <;> exact id))))
theorem go_no {L : List Du} {now t2 : Int} (h : t2 ≤ now ∨ 1099511627776 < t2) : goL L now t2 = [] ∧ goW L now t2 = L ∧ goN now t2 = now := by
  have e : gone now t2 = false := decide_eq_false (by omega)
  unfold goL goW goN
  rw [e]
  exact ⟨rfl, rfl, rfl⟩
theorem go_yes {L : List Du} {now t2 : Int} (h1 : now < t2) (h2 : t2 ≤ 1099511627776) {k : Nat} (hk : k ≤ L.length) (h3 : ∀ j (hj : j < L.length), j < k → L[j].2 ≤ t2) (h4 : ∀ h : k < L.length, ¬ L[k].2 ≤ t2) : goL L now t2 = L.take k ∧ goW L now t2 = L.drop k ∧ goN now t2 = t2 := by
  have e : gone now t2 = true := decide_eq_true ⟨h1, h2⟩
  unfold goL goW goN
  rw [e]
  obtain ⟨a, b⟩ := tw_is (p := fun e : Du => decide (e.2 ≤ t2)) hk (fun j hj hjk => decide_eq_true (h3 j hj hjk)) (fun h => decide_eq_false (h4 h))
  exact ⟨a, b, rfl⟩
set_option maxRecDepth 100000 in
set_option maxHeartbeats 4000000 in
theorem refgo_any (N now t2 : Int) (v : Value) (L : List Du) (w : World) (hv : IsL w v L) (hl : L.length ≤ 1000000) :
    Calls Try.prog 15 #[whV N now v, .int .i64 t2] w fun e w' => ∃ v' o, e = .returned (.tuple #[whV N (goN now t2) v', o]) ∧ IsL w' v' (goW L now t2) ∧ IsL w' o (goL L now t2) ∧ ((∀ q, v'.ownBlock = some q → v.ownBlock = some q) ∧ ∀ q, o.ownBlock = some q → v.ownBlock = some q) ∧ Below w.heap.size w w' := by
  have HV := Lib.hid hv
  obtain ⟨p, cap, rfl, hcap, hnone, HP⟩ := hv.at
  clear hv
  have X0 : Hid (∀ t t', Rw3 ((w.alloc (.cells #[.int .i64 N, .int .i64 now, .slice p L.length cap] t)).alloc (.cells #[.int .i64 0, .int .i64 0, .slice none 0 0] t')) w.heap.size N now (.slice p L.length cap) ∧ Rw3 ((w.alloc (.cells #[.int .i64 N, .int .i64 now, .slice p L.length cap] t)).alloc (.cells #[.int .i64 0, .int .i64 0, .slice none 0 0] t')) (w.heap.size + 1) 0 0 (.slice none 0 0)) := Lib.hid (fun t t' => by simp [Rw3, Wh3, go_sem])
  simp only [whV] at *
  by_cases h1 : t2 ≤ now
  · have HQ := Lib.hid (go_no (L := L) (now := now) (t2 := t2) (.inl h1))
    clear X0
    go_enter Try.func15, Try.ntmps15
    go_wp2
    refine bodyPost_ret (v := .tuple #[.agg #[.int .i64 N, .int .i64 now, .slice p L.length cap], .slice none 0 0]) (by simp [results, Try.results15, go_sem]) rfl ⟨_, _, by rw [HQ.out.2.2], ?_, ?_, ⟨by own15, by own15⟩, ?_⟩
    · rw [HQ.out.2.1]
      exact HV.out.call (by (repeat (first | (with_reducible exact Below.refl _ _) | ((with_reducible refine below_alloc ?_ ?_ _); · (first | omega | (simp; done) | (simp; omega))) | ((with_reducible refine below_setCell ?_ ?_ _); · (first | omega | (simp; done) | (simp; omega))) | (with_reducible refine Below.drew ?_) | (with_reducible refine below_drewN ?_ _) | ((with_reducible refine below_call (by assumption) ?_ ?_); · (first | omega | (simp; done) | (simp; omega))))))
    · rw [HQ.out.1]
      exact IsL.nil _
    · (repeat (first | (with_reducible exact Below.refl _ _) | ((with_reducible refine below_alloc ?_ ?_ _); · (first | omega | (simp; done) | (simp; omega))) | ((with_reducible refine below_setCell ?_ ?_ _); · (first | omega | (simp; done) | (simp; omega))) | (with_reducible refine Below.drew ?_) | (with_reducible refine below_drewN ?_ _) | ((with_reducible refine below_call (by assumption) ?_ ?_); · (first | omega | (simp; done) | (simp; omega)))))
  by_cases h2 : 1099511627776 < t2
  · have HQ := Lib.hid (go_no (L := L) (now := now) (t2 := t2) (.inr h2))
    clear X0
    go_enter Try.func15, Try.ntmps15
    go_wp2
    refine bodyPost_ret (v := .tuple #[.agg #[.int .i64 N, .int .i64 now, .slice p L.length cap], .slice none 0 0]) (by simp [results, Try.results15, go_sem]) rfl ⟨_, _, by rw [HQ.out.2.2], ?_, ?_, ⟨by own15, by own15⟩, ?_⟩
    · rw [HQ.out.2.1]
      exact HV.out.call (by (repeat (first | (with_reducible exact Below.refl _ _) | ((with_reducible refine below_alloc ?_ ?_ _); · (first | omega | (simp; done) | (simp; omega))) | ((with_reducible refine below_setCell ?_ ?_ _); · (first | omega | (simp; done) | (simp; omega))) | (with_reducible refine Below.drew ?_) | (with_reducible refine below_drewN ?_ _) | ((with_reducible refine below_call (by assumption) ?_ ?_); · (first | omega | (simp; done) | (simp; omega))))))
    · rw [HQ.out.1]
      exact IsL.nil _
    · (repeat (first | (with_reducible exact Below.refl _ _) | ((with_reducible refine below_alloc ?_ ?_ _); · (first | omega | (simp; done) | (simp; omega))) | ((with_reducible refine below_setCell ?_ ?_ _); · (first | omega | (simp; done) | (simp; omega))) | (with_reducible refine Below.drew ?_) | (with_reducible refine below_drewN ?_ _) | ((with_reducible refine below_call (by assumption) ?_ ?_); · (first | omega | (simp; done) | (simp; omega)))))
  have HG := Lib.hid (fun k hk a b => go_yes (L := L) (now := now) (t2 := t2) (by omega) (by omega) (k := k) hk a b)
  go_enter Try.func15, Try.ntmps15
  go_upto_region 4 with fail
  refine gen_world (F := fun W => (Rw3 W w.heap.size N t2 (.slice p L.length cap) ∧ Rw3 W (w.heap.size + 1) 0 0 (.slice none 0 0)) ∧ Below w.heap.size w W ∧ w.heap.size + 2 ≤ W.heap.size) ⟨by simp [Rw3, Wh3, go_sem], by (repeat (first | (with_reducible exact Below.refl _ _) | ((with_reducible refine below_alloc ?_ ?_ _); · (first | omega | (simp; done) | (simp; omega))) | ((with_reducible refine below_setCell ?_ ?_ _); · (first | omega | (simp; done) | (simp; omega))) | (with_reducible refine Below.drew ?_) | (with_reducible refine below_drewN ?_ _) | ((with_reducible refine below_call (by assumption) ?_ ?_); · (first | omega | (simp; done) | (simp; omega))))), by simp⟩ (fun wt hF => ?_)
  obtain ⟨⟨X, Z⟩, hB, hz⟩ := hF
  have HXZ := Lib.hid (And.intro X Z)
  obtain ⟨⟨x0, x1, x2⟩, f0, f1, f2⟩ := X
  obtain ⟨⟨z0, z1, z2⟩, j0, j1, j2⟩ := Z
  have hne : w.heap.size ≠ w.heap.size + 1 := by omega
  clear X0
  go_wp2
  go_loopw [6] (fun i wr => ∃ k : Nat, i = .int .i64 k ∧ k ≤ L.length ∧ Hid (∀ j (hj : j < L.length), j < k → L[j].2 ≤ t2) ∧ wr = wt) (fun i _ => L.length - (intOf i).toNat)
  case atStart => exact ⟨0, rfl, Nat.zero_le _, Lib.hid (fun j _ hj => by omega), rfl⟩
  case round =>
    obtain ⟨k, rfl, hk, hok, rfl⟩ := hrel
    have hwp : ∀ b off, p = some ⟨b, off, none⟩ → IsL w (.slice (some ⟨b, off, none⟩) k cap) (L.take k) ∧ IsL w (.slice (if cap = k then some ⟨b, off, none⟩ else some ⟨b, off + k * 2, none⟩) (L.length - k) (cap - k)) (L.drop k) := fun b off hp => by
      have h0 := HV.out
      rw [hp] at h0
      refine ⟨by have := h0.sub (i := 0) (n := k) (c := cap) (o := off) (by omega) (by omega) (by omega); simpa using this, ?_⟩
      split
      · have e0 : L.drop k = [] := List.drop_eq_nil_of_le (by omega)
        rw [e0, show L.length - k = 0 by omega]
        exact isL_none _ _ _ _
      · have := h0.sub (i := k) (n := L.length - k) (c := cap - k) (o := off + k * 2) (by omega) rfl (by omega)
        rw [List.take_of_length_le (by rw [List.length_drop]; exact Nat.le_refl _)] at this
        exact this
    have HWP := Lib.hid hwp
    clear hwp
    have hkc : (k : Int) ≤ cap := by omega
    have hkl : (k : Int) ≤ L.length := by omega
    have hlc : (L.length : Int) ≤ cap := by omega
    by_cases hlt : k < L.length
    · have hlt' : (k : Int) < L.length := by omega
      obtain ⟨b, off, rfl, g⟩ := HP.out k hlt
      have g1 := (g.far hB).2
      have HN := Lib.hid (show L[k].2 ≤ t2 → ∀ j (hj : j < L.length), j < k + 1 → L[j].2 ≤ t2 from fun h j hj hjk => by
        by_cases e : j = k
        · subst e; exact h
        · exact hok.out j hj (by omega))
      have HY := Lib.hid (fun h => HG.out k hk hok.out h)
      have HY2 := Lib.hid (show ¬ L[k].2 ≤ t2 → _ from fun h => HY.out (fun _ => by first | exact h | omega))
      generalize L[k].2 = t at g1 HN HY2
      clear g HY
      by_cases ht : t ≤ t2
      · have HN2 := Lib.hid (HN.out ht)
        clear HN HY2 HG
        go_wp2
        go_roundw
        case rel => exact ⟨k + 1, by go_num, by omega, HN2, by first | rfl | trivial⟩
        case measure => simp [intOf]; omega
      · have HQ := Lib.hid (HY2.out ht)
        have ht' : ¬ t ≤ t2 := ht
        have hck : ¬ cap = k := by omega
        obtain ⟨WP1, WP2⟩ := HWP.out _ _ rfl
        rw [if_neg hck] at WP2
        have HW12 := Lib.hid (And.intro WP1 WP2)
        clear HN HY2 HG WP1 WP2 HWP ht
        go_wp2
        refine bodyPost_ret (v := .tuple #[.agg #[.int .i64 N, .int .i64 t2, .slice (some ⟨b, off + k * 2, none⟩) (L.length - k) (cap - k)], .slice (some ⟨b, off, none⟩) k cap]) (by simp [results, Try.results15, go_sem, z0, z1, z2]) rfl ⟨_, _, by rw [HQ.out.2.2], ?_, ?_, ⟨by own15, by own15⟩, ?_⟩
        · rw [HQ.out.2.1]
          exact HW12.out.2.call (by (repeat (first | (with_reducible exact Below.refl _ _) | ((with_reducible refine below_alloc ?_ ?_ _); · (first | omega | (simp; done) | (simp; omega))) | ((with_reducible refine below_setCell ?_ ?_ _); · (first | omega | (simp; done) | (simp; omega))) | (with_reducible refine Below.drew ?_) | (with_reducible refine below_drewN ?_ _) | ((with_reducible refine below_call (by assumption) ?_ ?_); · (first | omega | (simp; done) | (simp; omega))))))
        · rw [HQ.out.1]
          exact HW12.out.1.call (by (repeat (first | (with_reducible exact Below.refl _ _) | ((with_reducible refine below_alloc ?_ ?_ _); · (first | omega | (simp; done) | (simp; omega))) | ((with_reducible refine below_setCell ?_ ?_ _); · (first | omega | (simp; done) | (simp; omega))) | (with_reducible refine Below.drew ?_) | (with_reducible refine below_drewN ?_ _) | ((with_reducible refine below_call (by assumption) ?_ ?_); · (first | omega | (simp; done) | (simp; omega))))))
        · (repeat (first | (with_reducible exact Below.refl _ _) | ((with_reducible refine below_alloc ?_ ?_ _); · (first | omega | (simp; done) | (simp; omega))) | ((with_reducible refine below_setCell ?_ ?_ _); · (first | omega | (simp; done) | (simp; omega))) | (with_reducible refine Below.drew ?_) | (with_reducible refine below_drewN ?_ _) | ((with_reducible refine below_call (by assumption) ?_ ?_); · (first | omega | (simp; done) | (simp; omega)))))
    · have hlt' : ¬ (k : Int) < L.length := by omega
      have HQ := Lib.hid (HG.out k hk hok.out (fun h => absurd h hlt))
      clear HG hok
      rcases hnone with ⟨rfl, rfl, rfl⟩ | ⟨b, off, rfl⟩
      · have hk0 : k = 0 := by simpa using hk
        subst hk0
        have hz0 : (([] : List Du).length : Int) = 0 := rfl
        have HQ2 : Hid (goL ([] : List Du) now t2 = [] ∧ goW ([] : List Du) now t2 = [] ∧ goN now t2 = t2) := Lib.hid (by simpa using HQ.out)
        clear HWP HP HV
        simp only [List.length_nil] at *
        go_wp2
        refine bodyPost_ret (v := .tuple #[.agg #[.int .i64 N, .int .i64 t2, .slice none 0 0], .slice none 0 0]) (by simp [results, Try.results15, go_sem, z0, z1, z2]) rfl ⟨_, _, by rw [HQ2.out.2.2], ?_, ?_, ⟨by own15, by own15⟩, ?_⟩
        · rw [HQ2.out.2.1]
          exact IsL.nil _
        · rw [HQ2.out.1]
          exact IsL.nil _
        · (repeat (first | (with_reducible exact Below.refl _ _) | ((with_reducible refine below_alloc ?_ ?_ _); · (first | omega | (simp; done) | (simp; omega))) | ((with_reducible refine below_setCell ?_ ?_ _); · (first | omega | (simp; done) | (simp; omega))) | (with_reducible refine Below.drew ?_) | (with_reducible refine below_drewN ?_ _) | ((with_reducible refine below_call (by assumption) ?_ ?_); · (first | omega | (simp; done) | (simp; omega)))))
      · obtain ⟨WP1, WP2⟩ := HWP.out _ _ rfl
        have HW12 := Lib.hid (And.intro WP1 WP2)
        clear WP1 WP2 HWP HP hlt
        go_wp2
        all_goals
          refine bodyPost_ret (v := .tuple #[.agg #[.int .i64 N, .int .i64 t2, .slice (if cap = k then some ⟨b, off, none⟩ else some ⟨b, off + k * 2, none⟩) (L.length - k) (cap - k)], .slice (some ⟨b, off, none⟩) k cap]) (by simp [results, Try.results15, go_sem, z0, z1, z2, *]) rfl ⟨_, _, by rw [HQ.out.2.2], ?_, ?_, ⟨by own15, by own15⟩, ?_⟩
          · rw [HQ.out.2.1]
            exact HW12.out.2.call (by (repeat (first | (with_reducible exact Below.refl _ _) | ((with_reducible refine below_alloc ?_ ?_ _); · (first | omega | (simp; done) | (simp; omega))) | ((with_reducible refine below_setCell ?_ ?_ _); · (first | omega | (simp; done) | (simp; omega))) | (with_reducible refine Below.drew ?_) | (with_reducible refine below_drewN ?_ _) | ((with_reducible refine below_call (by assumption) ?_ ?_); · (first | omega | (simp; done) | (simp; omega))))))
          · rw [HQ.out.1]
            exact HW12.out.1.call (by (repeat (first | (with_reducible exact Below.refl _ _) | ((with_reducible refine below_alloc ?_ ?_ _); · (first | omega | (simp; done) | (simp; omega))) | ((with_reducible refine below_setCell ?_ ?_ _); · (first | omega | (simp; done) | (simp; omega))) | (with_reducible refine Below.drew ?_) | (with_reducible refine below_drewN ?_ _) | ((with_reducible refine below_call (by assumption) ?_ ?_); · (first | omega | (simp; done) | (simp; omega))))))
          · (repeat (first | (with_reducible exact Below.refl _ _) | ((with_reducible refine below_alloc ?_ ?_ _); · (first | omega | (simp; done) | (simp; omega))) | ((with_reducible refine below_setCell ?_ ?_ _); · (first | omega | (simp; done) | (simp; omega))) | (with_reducible refine Below.drew ?_) | (with_reducible refine below_drewN ?_ _) | ((with_reducible refine below_call (by assumption) ?_ ?_); · (first | omega | (simp; done) | (simp; omega)))))
end Go.Proofs.Ytcanaadcjipfjaa
