/- Layer 15, the document's: when a number is due; time goes on; what is due next; how many in each slot. -/
import Derived.Test.YtcanaadcjipfjaaW15B
import Derived.Test.YtcanaadcjipfjaaKitI
namespace Go.Proofs.Ytcanaadcjipfjaa
open Go.RowKit
set_option linter.unusedVariables false
set_option linter.unusedSimpArgs false

theorem when_at {L : List Du} {id : Int} {k : Nat} (hk : k < L.length) (h1 : ∀ j (hj : j < L.length), j < k → L[j].1 ≠ id) (h2 : L[k].1 = id) : whenW L id = L[k].2 ∧ isW L id = true := by
  have e : L = L.take k ++ L[k] :: L.drop (k + 1) := by rw [← List.drop_eq_getElem_cons hk, List.take_append_drop]
  have hf : (L.find? fun e => decide (e.1 = id)) = some L[k] := by
    conv => lhs; rw [e]
    rw [List.find?_append, List.find?_eq_none.2 (fun x hx => by
      obtain ⟨j, hj, rfl⟩ := List.mem_take_iff_getElem.1 hx
      simpa using h1 j (by omega) (by omega)), Option.none_or, List.find?_cons_of_pos (by simpa using h2)]
  refine ⟨by unfold whenW; rw [hf], ?_⟩
  unfold isW
  rw [List.any_eq_true]
  exact ⟨L[k], List.getElem_mem hk, by simpa using h2⟩
theorem when_no {L : List Du} {id : Int} (h1 : ∀ j (hj : j < L.length), L[j].1 ≠ id) : whenW L id = 0 ∧ isW L id = false := by
  have hf : (L.find? fun e => decide (e.1 = id)) = none := List.find?_eq_none.2 (fun x hx => by
    obtain ⟨j, hj, rfl⟩ := List.getElem_of_mem hx
    simpa using h1 j hj)
  refine ⟨by unfold whenW; rw [hf], ?_⟩
  unfold isW
  rw [List.any_eq_false]
  intro x hx
  obtain ⟨j, hj, rfl⟩ := List.getElem_of_mem hx
  simpa using h1 j hj
theorem IsL.at {w : World} {v : Value} {L : List Du} (h : IsL w v L) : ∃ p cap, v = .slice p L.length cap ∧ L.length ≤ cap ∧ ((p = none ∧ L = [] ∧ cap = 0) ∨ ∃ b off, p = some ⟨b, off, none⟩) ∧ Hid (∀ j (hj : j < L.length), ∃ b off, p = some ⟨b, off, none⟩ ∧ Du2 w b (off + j * 2) L[j]) := by
  obtain ⟨⟨p, cap, rfl, hn, h1⟩, p', cap', e, hc, hp⟩ := h
  cases e
  refine ⟨p, cap, rfl, hc, hp.imp (fun e => ?_) (fun h => h), Lib.hid (fun j hj => ?_)⟩
  · have := hn e
    exact ⟨e, List.eq_nil_of_length_eq_zero (by omega), this⟩
  · obtain ⟨b, off, hp, g⟩ := h1 j hj
    exact ⟨b, off, hp, du2_of g⟩
set_option maxRecDepth 100000 in
set_option maxHeartbeats 4000000 in
theorem refwhen_any (N now id : Int) (v : Value) (L : List Du) (w : World) (hv : IsL w v L) (hl : L.length ≤ 1000000) :
    Calls Try.prog 22 #[whV N now v, .int .i64 id] w fun e w' => e = .returned (.tuple #[.int .i64 (whenW L id), .bool (isW L id)]) ∧ Below w.heap.size w w' := by
  obtain ⟨p, cap, rfl, -, -, HP⟩ := hv.at
  have X0 : Hid (∀ t, Wh3 (w.alloc (.cells #[.int .i64 N, .int .i64 now, .slice p L.length cap] t)) w.heap.size N now (.slice p L.length cap)) := Lib.hid (fun t => by simp [Wh3, go_sem])
  clear hv
  simp only [whV] at *
  go_enter Try.func22, Try.ntmps22
  go_upto_region 1 with fail
  refine gen_world (F := fun W => Wh3 W w.heap.size N now (.slice p L.length cap) ∧ Below w.heap.size w W) ⟨X0.out _, by (repeat (first | (with_reducible exact Below.refl _ _) | ((with_reducible refine below_alloc ?_ ?_ _); · (first | omega | (simp; done) | (simp; omega))) | ((with_reducible refine below_setCell ?_ ?_ _); · (first | omega | (simp; done) | (simp; omega))) | (with_reducible refine Below.drew ?_) | (with_reducible refine below_drewN ?_ _) | ((with_reducible refine below_call (by assumption) ?_ ?_); · (first | omega | (simp; done) | (simp; omega)))))⟩ (fun wt hF => ?_)
  obtain ⟨⟨x0, x1, x2⟩, hB⟩ := hF
  clear X0
  go_wp2
  go_loopw [6] (fun i wr => ∃ k : Nat, i = .int .i64 k ∧ k ≤ L.length ∧ Hid (∀ j (hj : j < L.length), j < k → L[j].1 ≠ id) ∧ wr = wt) (fun i _ => L.length - (intOf i).toNat)
  case atStart => exact ⟨0, rfl, Nat.zero_le _, Lib.hid (fun j _ hj => by omega), rfl⟩
  case round =>
    obtain ⟨k, rfl, hk, hok, rfl⟩ := hrel
    by_cases hlt : k < L.length
    · have hlt' : (k : Int) < L.length := by omega
      obtain ⟨b, off, rfl, g⟩ := HP.out k hlt
      obtain ⟨g0, g1⟩ := g.far hB
      have HN := Lib.hid (show L[k].1 ≠ id → ∀ j (hj : j < L.length), j < k + 1 → L[j].1 ≠ id from fun h j hj hjk => by
        by_cases e : j = k
        · subst e; exact h
        · exact hok.out j hj (by omega))
      have HY := Lib.hid (when_at hlt hok.out)
      generalize L[k].1 = s at g0 HN HY
      generalize L[k].2 = t at g1 HY
      clear g
      by_cases hs : s = id
      · have HQ := Lib.hid (HY.out hs)
        have hs' : (s == id) = true := by simp [hs]
        clear hs HN HY
        go_wp2
        go_ret2
        exact ⟨by rw [HQ.out.1, HQ.out.2]; rfl, hB⟩
      · have hs' : (s == id) = false := by simp [hs]
        have HN2 := Lib.hid (HN.out hs)
        clear hs HN HY
        go_wp2
        go_roundw
        case rel => exact ⟨k + 1, by go_num, by omega, HN2, by first | rfl | trivial⟩
        case measure => simp [intOf]; omega
    · obtain rfl : k = L.length := by omega
      have HQ := Lib.hid (when_no (fun j hj => hok.out j hj hj))
      clear hok
      go_wp2
      go_ret2
      exact ⟨by rw [HQ.out.1, HQ.out.2]; rfl, hB⟩
theorem next_none : nextW ([] : List Du) = 0 := rfl
set_option maxRecDepth 100000 in
set_option maxHeartbeats 4000000 in
theorem refnext_any (N now : Int) (v : Value) (L : List Du) (w : World) (hv : IsL w v L) :
    Calls Try.prog 20 #[whV N now v] w fun e w' => e = .returned (.tuple #[.int .i64 (nextW L), .bool (decide (0 < L.length))]) ∧ Below w.heap.size w w' := by
  obtain ⟨p, cap, rfl, -, -, HP⟩ := hv.at
  clear hv
  cases hL : L with
  | nil =>
    have hz : (([] : List Du).length : Int) = 0 := rfl
    simp only [whV, List.length_nil] at *
    go_enter Try.func20, Try.ntmps20
    go_wp2
    go_ret2
    exact ⟨by rw [next_none]; rfl, by (repeat (first | (with_reducible exact Below.refl _ _) | ((with_reducible refine below_alloc ?_ ?_ _); · (first | omega | (simp; done) | (simp; omega))) | ((with_reducible refine below_setCell ?_ ?_ _); · (first | omega | (simp; done) | (simp; omega))) | (with_reducible refine Below.drew ?_) | (with_reducible refine below_drewN ?_ _) | ((with_reducible refine below_call (by assumption) ?_ ?_); · (first | omega | (simp; done) | (simp; omega)))))⟩
  | cons e l =>
    obtain ⟨b, off, rfl, g⟩ := HP.out 0 (by rw [hL]; simp)
    have g1 : w.cell? ⟨b, off + 1, none⟩ = some (.int .i64 e.2) := by have := g.2; simp only [hL, List.getElem_cons_zero, Nat.zero_mul, Nat.add_zero] at this; exact this
    have hbl : b < w.heap.size := World.block_lt_of_cell? _ _ g1
    have hn : nextW (e :: l) = e.2 := rfl
    rw [hn]
    generalize hm : (e :: l).length = m
    have hm1 : 0 < m := by rw [← hm]; simp
    have hmz : ((m : Int) == 0) = false := by simp; omega
    have hmi : (0 : Int) < m := by omega
    obtain ⟨s, t⟩ := e
    simp only [whV] at *
    have hne : b ≠ w.heap.size := by omega
    clear g HP hL hm
    go_enter Try.func20, Try.ntmps20
    go_wp2
    go_ret2
    exact ⟨by simp [hm1], by (repeat (first | (with_reducible exact Below.refl _ _) | ((with_reducible refine below_alloc ?_ ?_ _); · (first | omega | (simp; done) | (simp; omega))) | ((with_reducible refine below_setCell ?_ ?_ _); · (first | omega | (simp; done) | (simp; omega))) | (with_reducible refine Below.drew ?_) | (with_reducible refine below_drewN ?_ _) | ((with_reducible refine below_call (by assumption) ?_ ?_); · (first | omega | (simp; done) | (simp; omega)))))⟩
end Go.Proofs.Ytcanaadcjipfjaa
