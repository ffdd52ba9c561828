/- Layer 15, the document's: a number that is set. -/
import Derived.Test.YtcanaadcjipfjaaW15A
import Derived.Test.YtcanaadcjipfjaaKitTail
import Derived.Deep.RegionHeld3
import Derived.Deep.QuietTactic
namespace Go.Proofs.Ytcanaadcjipfjaa
open Go.RowKit
set_option linter.unusedVariables false
set_option linter.unusedSimpArgs false

theorem tw_is {α : Type} {p : α → Bool} : ∀ {l : List α} {k : Nat}, k ≤ l.length → (∀ j (hj : j < l.length), j < k → p l[j] = true) → (∀ h : k < l.length, p l[k] = false) → l.takeWhile p = l.take k ∧ l.dropWhile p = l.drop k
  | [], k, hk, _, _ => by simp
  | a :: l, 0, _, _, h2 => by
    have h := h2 (by simp)
    simp only [List.getElem_cons_zero] at h
    rw [List.takeWhile_cons_of_neg (by simp [h]), List.dropWhile_cons_of_neg (by simp [h])]
    simp
  | a :: l, k + 1, hk, h1, h2 => by
    have h := h1 0 (by simp) (by omega)
    simp only [List.getElem_cons_zero] at h
    rw [List.takeWhile_cons_of_pos h, List.dropWhile_cons_of_pos h]
    obtain ⟨e1, e2⟩ := tw_is (l := l) (k := k) (by simpa using hk) (fun j hj hjk => by have := h1 (j + 1) (by simpa using hj) (by omega); simpa using this) (fun h => by have := h2 (by simpa using h); simpa using this)
    rw [e1, e2]
    simp
theorem set_no {L : List Du} {now id a : Int} (h : id < 0 ∨ 255 < id ∨ a ≤ now ∨ 1099511627776 < a) : setE now id a = 8 ∧ setW L now id a = L := by
  have e : setE now id a = 8 := if_pos h
  exact ⟨e, by unfold setW; rw [if_neg (by rw [e]; decide)]⟩
theorem set_yes {L : List Du} {now id a : Int} (h : ¬ (id < 0 ∨ 255 < id ∨ a ≤ now ∨ 1099511627776 < a)) {k : Nat} (hk : k ≤ (delW L id).length) (h1 : ∀ j (hj : j < (delW L id).length), j < k → aheadB (delW L id)[j] (id, a) = true) (h2 : ∀ h : k < (delW L id).length, aheadB (delW L id)[k] (id, a) = false) :
    setE now id a = 0 ∧ setW L now id a = ([] ++ (delW L id).take k ++ [(id, a)]) ++ (delW L id).drop k := by
  have e : setE now id a = 0 := if_neg h
  refine ⟨e, ?_⟩
  unfold setW insW
  obtain ⟨e1, e2⟩ := tw_is (p := fun e => aheadB e (id, a)) hk h1 h2
  rw [if_pos e, e1, e2]
  simp
/-- where a row of the call's own lies -/
theorem own_form {te : TypeId} {w1 : World} {B1 : Nat} {v1 : Value} {C : List Du} (h : OwnR te 2 duC w1 B1 v1 C) : ∃ p1 c1, v1 = .slice p1 C.length c1 ∧ C.length ≤ c1 ∧ ((p1 = none ∧ C = [] ∧ c1 = 0) ∨ ∃ g, p1 = some ⟨g, 0, none⟩) := by
  rcases h.2 with ⟨h2, h3⟩ | ⟨g, cp, cur, h2, _, _, h3, _⟩
  · exact ⟨none, 0, by rw [h2, h3], by omega, .inl ⟨rfl, List.eq_nil_of_length_eq_zero h3, rfl⟩⟩
  · exact ⟨_, cp, h2, h3, .inr ⟨g, rfl⟩⟩
/-- a slice that reads as these, and may be cut -/
def IsL (w : World) (v : Value) (L : List Du) : Prop := IsR 2 duC w v L ∧ ∃ p cap, v = .slice p L.length cap ∧ L.length ≤ cap ∧ (p = none ∨ ∃ b off, p = some ⟨b, off, none⟩)
theorem IsL.call {W w1 : World} {v : Value} {L : List Du} (h : IsL W v L) (hb : Below W.heap.size W w1) : IsL w1 v L := ⟨h.1.call hb, h.2⟩
theorem own_isL {te : TypeId} {w : World} {B : Nat} {v : Value} {L : List Du} (h : OwnR te 2 duC w B v L) : IsL w v L := by
  obtain ⟨p, c, e, hc, hp⟩ := own_form h
  exact ⟨h.reads duC_len, p, c, e, hc, hp.imp (fun h => h.1) (fun ⟨g, h⟩ => ⟨g, 0, h⟩)⟩
set_option maxRecDepth 100000 in
set_option maxHeartbeats 4000000 in
theorem refset_no (N now id a : Int) (v : Value) (L : List Du) (w : World) (hv : IsL w v L) (h : id < 0 ∨ 255 < id ∨ a ≤ now ∨ 1099511627776 < a) :
    Calls Try.prog 18 #[whV N now v, .int .i64 id, .int .i64 a] w fun e w' => e = .returned (.tuple #[whV N now v, .int .i64 8]) ∧ Below w.heap.size w w' := by
  obtain ⟨p, cap, rfl, -, -⟩ := hv.2
  clear hv
  simp only [whV] at *
  rcases (show id < 0 ∨ (¬ id < 0 ∧ 255 < id) ∨ (¬ id < 0 ∧ ¬ 255 < id ∧ a ≤ now) ∨ (¬ id < 0 ∧ ¬ 255 < id ∧ ¬ a ≤ now ∧ 1099511627776 < a) by omega) with h | ⟨h0, h⟩ | ⟨h0, h1, h⟩ | ⟨h0, h1, h2, h⟩
  all_goals
    go_enter Try.func18, Try.ntmps18
    go_wp2
    refine bodyPost_ret (v := .tuple #[.agg #[.int .i64 N, .int .i64 now, .slice p L.length cap], .int .i64 8]) (by simp [results, Try.results18, go_sem]) rfl ⟨rfl, ?_⟩
    (repeat (first | (with_reducible exact Below.refl _ _) | ((with_reducible refine below_alloc ?_ ?_ _); · (first | omega | (simp; done) | (simp; omega))) | ((with_reducible refine below_setCell ?_ ?_ _); · (first | omega | (simp; done) | (simp; omega))) | (with_reducible refine Below.drew ?_) | (with_reducible refine below_drewN ?_ _) | ((with_reducible refine below_call (by assumption) ?_ ?_); · (first | omega | (simp; done) | (simp; omega)))))
set_option maxRecDepth 100000 in
set_option maxHeartbeats 8000000 in
theorem refset_yes (N now id a : Int) (v : Value) (L : List Du) (w : World) (hv : IsL w v L) (hl : L.length ≤ 1000000) (h : ¬ (id < 0 ∨ 255 < id ∨ a ≤ now ∨ 1099511627776 < a)) :
    Calls Try.prog 18 #[whV N now v, .int .i64 id, .int .i64 a] w fun e w' => ∃ v', e = .returned (.tuple #[whV N now v', .int .i64 0]) ∧ OwnR 65 2 duC w' w.heap.size v' (setW L now id a) ∧ Below w.heap.size w w' := by
  have HS := Lib.hid (fun k hk h1 h2 => (set_yes (L := L) h (k := k) hk h1 h2).2)
  have hdl : (delW L id).length ≤ 1000000 := Nat.le_trans (List.length_filter_le _ _) hl
  have cS := Lib.hid (fun v W hv => refstop_any N now id v L W hv hl)
  have HV := Lib.hid hv
  obtain ⟨p, cap, rfl, -, -⟩ := hv.2
  have q0 : ¬ id < 0 := by omega
  have q1 : ¬ 255 < id := by omega
  have q2 : ¬ a ≤ now := by omega
  have q3 : ¬ 1099511627776 < a := by omega
  clear hv h
  have X0 : Hid (∀ t t', Rw3 ((w.alloc (.cells #[.int .i64 N, .int .i64 now, .slice p L.length cap] t)).alloc (.cells #[.int .i64 0, .int .i64 0, .slice none 0 0] t')) w.heap.size N now (.slice p L.length cap) ∧ Rw3 ((w.alloc (.cells #[.int .i64 N, .int .i64 now, .slice p L.length cap] t)).alloc (.cells #[.int .i64 0, .int .i64 0, .slice none 0 0] t')) (w.heap.size + 1) 0 0 (.slice none 0 0)) := Lib.hid (fun t t' => by simp [Rw3, Wh3, go_sem])
  simp only [whV] at *
  go_enter Try.func18, Try.ntmps18
  go_upto_region 1 with fail
  refine gen_world (F := fun W => (Rw3 W w.heap.size N now (.slice p L.length cap) ∧ Rw3 W (w.heap.size + 1) 0 0 (.slice none 0 0)) ∧ IsR 2 duC W (.slice p L.length cap) L ∧ Below w.heap.size w W ∧ w.heap.size + 2 ≤ W.heap.size) ⟨X0.out _ _, HV.out.1.call (by (repeat (first | (with_reducible exact Below.refl _ _) | ((with_reducible refine below_alloc ?_ ?_ _); · (first | omega | (simp; done) | (simp; omega))) | ((with_reducible refine below_setCell ?_ ?_ _); · (first | omega | (simp; done) | (simp; omega))) | (with_reducible refine Below.drew ?_) | (with_reducible refine below_drewN ?_ _) | ((with_reducible refine below_call (by assumption) ?_ ?_); · (first | omega | (simp; done) | (simp; omega)))))), by (repeat (first | (with_reducible exact Below.refl _ _) | ((with_reducible refine below_alloc ?_ ?_ _); · (first | omega | (simp; done) | (simp; omega))) | ((with_reducible refine below_setCell ?_ ?_ _); · (first | omega | (simp; done) | (simp; omega))) | (with_reducible refine Below.drew ?_) | (with_reducible refine below_drewN ?_ _) | ((with_reducible refine below_call (by assumption) ?_ ?_); · (first | omega | (simp; done) | (simp; omega))))), by simp⟩ (fun wt hF => ?_)
  obtain ⟨⟨X, Z⟩, hV, hB0, hz⟩ := hF
  have HX := Lib.hid (And.intro X Z)
  obtain ⟨⟨x0, x1, x2⟩, f0, f1, f2⟩ := X
  clear X0 Z HV
  go_wp2_with fail
  refine (cS.out _ _ hV).mono ?_; rintro e w1 ⟨v1, rfl, ho1, hb1⟩
  obtain ⟨p1, c1, rfl, hc1, hg1⟩ := own_form ho1
  have B1 := hB0.trans (hb1.mono hB0.size)
  have hz1 := Nat.le_trans hz hb1.size
  obtain ⟨X1, Z1⟩ := (HX.out).imp (fun h => h.call hb1) (fun h => h.call hb1)
  have HO1 := Lib.hid (ho1.mono (B' := w.heap.size + 2) hz)
  clear x0 x1 x2 f0 f1 f2 hV ho1 cS HX
  generalize delW L id = C at *
  obtain ⟨⟨x0, x1, x2⟩, f0, f1, f2⟩ := And.intro X1.1 X1.2
  have HX1 := Lib.hid (And.intro X1 Z1)
  clear X1 Z1
  go_upto_region 4 with fail
  refine gen_world (F := fun W => (Rw3 W w.heap.size N now (.slice p1 C.length c1) ∧ Rw3 W (w.heap.size + 1) 0 0 (.slice none 0 0)) ∧ OwnR 65 2 duC W (w.heap.size + 2) (.slice p1 C.length c1) C ∧ Below w.heap.size w W ∧ w.heap.size + 2 ≤ W.heap.size) ⟨⟨?_, ?_⟩, ?_, by (repeat (first | (with_reducible exact Below.refl _ _) | ((with_reducible refine below_alloc ?_ ?_ _); · (first | omega | (simp; done) | (simp; omega))) | ((with_reducible refine below_setCell ?_ ?_ _); · (first | omega | (simp; done) | (simp; omega))) | (with_reducible refine Below.drew ?_) | (with_reducible refine below_drewN ?_ _) | ((with_reducible refine below_call (by assumption) ?_ ?_); · (first | omega | (simp; done) | (simp; omega))))), by simpa using hz1⟩ (fun w2 hF => ?_)
  · simp [Rw3, Wh3, go_sem, x0, x1, x2, f0, f1, f2]
  · have hne : w.heap.size ≠ w.heap.size + 1 := by omega
    obtain ⟨-, ⟨z0, z1, z2⟩, j0, j1, j2⟩ := HX1.out
    simp [Rw3, Wh3, go_sem, z0, z1, z2, j0, j1, j2, hne]
  · exact ((HO1.out.set (p := ⟨w.heap.size, 0, none⟩) (by show w.heap.size < _; omega) _).set (p := ⟨w.heap.size, 1, none⟩) (by show w.heap.size < _; omega) _).set (p := ⟨w.heap.size, 2, none⟩) (by show w.heap.size < _; omega) _
  clear x0 x1 x2 f0 f1 f2 HX1 HO1 B1 hz1 hb1 hB0 hz
  obtain ⟨⟨X, Z⟩, ho, hB, hz⟩ := hF
  have HR := Lib.hid (ho.reads duC_len)
  have HXZ := Lib.hid (And.intro X Z)
  obtain ⟨⟨x0, x1, x2⟩, f0, f1, f2⟩ := X
  clear Z ho
  have HP : Hid (∀ j (hj : j < C.length), ∃ b off, p1 = some ⟨b, off, none⟩ ∧ Du2 w2 b (off + j * 2) C[j]) := Lib.hid (fun j hj => by
    obtain ⟨p', cap', e, _, h⟩ := HR.out
    obtain ⟨b, off, rfl, g⟩ := h j hj
    cases e
    exact ⟨b, off, rfl, du2_of g⟩)
  go_wp2
  go_loopw [8] (fun i wr => ∃ k : Nat, i = .int .i64 k ∧ k ≤ C.length ∧ Hid (∀ j (hj : j < C.length), j < k → aheadB C[j] (id, a) = true) ∧ wr = w2) (fun i _ => C.length - (intOf i).toNat)
  case atStart => exact ⟨0, rfl, Nat.zero_le _, Lib.hid (fun j _ hj => by omega), rfl⟩
  case round =>
    obtain ⟨k, rfl, hk, hok, rfl⟩ := hrel
    have hex : (k < C.length ∧ ∀ h : k < C.length, aheadB C[k] (id, a) = true) ∨ (k = C.length ∨ (∃ h : k < C.length, a < C[k].2) ∨ (∃ h : k < C.length, C[k].2 = a ∧ id ≤ C[k].1)) := by
      by_cases hlt : k < C.length
      · by_cases ha : aheadB C[k] (id, a) = true
        · exact .inl ⟨hlt, fun _ => ha⟩
        · rw [ahead_iff] at ha
          simp only at ha
          by_cases h1 : a < C[k].2
          · exact .inr (.inr (.inl ⟨hlt, h1⟩))
          · exact .inr (.inr (.inr ⟨hlt, by omega, by omega⟩))
      · exact .inr (.inl (by omega))
    rcases hex with ⟨hlt, hah⟩ | hex
    · have hlt' : (k : Int) < C.length := by omega
      obtain ⟨b, off, rfl, g0, g1⟩ := HP.out k hlt
      have hah := hah hlt
      have HN := Lib.hid (show ∀ j (hj : j < C.length), j < k + 1 → aheadB C[j] (id, a) = true from fun j hj hjk => by
        by_cases e : j = k
        · subst e; exact hah
        · exact hok.out j hj (by omega))
      rw [ahead_iff] at hah
      generalize C[k].1 = s at g0 hah
      generalize C[k].2 = t at g1 hah
      simp only at hah
      by_cases ht : t < a
      · clear hah
        go_wp2
        go_roundw
        case rel => exact ⟨k + 1, by go_num, by omega, HN, by first | rfl | trivial⟩
        case measure => simp [intOf]; omega
      · have ht2 : t = a := by omega
        have hs : s < id := by omega
        subst ht2
        clear hah ht
        go_wp2
        go_roundw
        case rel => exact ⟨k + 1, by go_num, by omega, HN, by first | rfl | trivial⟩
        case measure => simp [intOf]; omega
    · have HQ : Hid (setW L now id a = ([] ++ C.take k ++ [(id, a)]) ++ C.drop k) := Lib.hid (HS.out k hk hok.out (fun h => by
        cases hc : aheadB C[k] (id, a) with
        | false => rfl
        | true =>
          rw [ahead_iff] at hc
          simp only at hc
          rcases hex with e | ⟨_, e⟩ | ⟨_, e1, e2⟩
          · omega
          · omega
          · omega))
      clear hok HS
      rcases hg1 with ⟨rfl, rfl, rfl⟩ | ⟨g, rfl⟩
      · have hk0 : k = 0 := by simpa using hk
        subst hk0
        clear hex HP
        simp only [List.take_nil, List.drop_nil] at HQ
        go_upto_region 8 with fail
        have hout : Hid (∀ W, Below wr.heap.size wr W → W.cell? ⟨w.heap.size, 2, none⟩ = some (.slice none 0 0) ∧ W.frozen? ⟨w.heap.size, 2, none⟩ = false) := Lib.hid (fun W hb => ⟨(HXZ.out.1.call hb).1.2.2, (HXZ.out.1.call hb).2.2.2⟩)
        have IPRE : ∀ W, Below wr.heap.size wr W → IsR 2 duC W (.slice none 0 0) (([] : List Du)) := fun W hb => IsR.nil _ _ _
        have ITAIL : Hid (∀ W, Below wr.heap.size wr W → IsR 2 duC W (.slice none 0 0) (([] : List Du))) := Lib.hid (fun W hb => IsR.nil _ _ _)
        have hT0 : Below wr.heap.size wr wr.drew := Below.drew (Below.refl _ _)
        go_cut [] (fun wx => ∃ p5 c5 w7, OwnR 65 2 duC w7 wr.heap.size (.slice p5 (([] ++ ([] : List Du) ++ [((id, a) : Du)]) ++ ([] : List Du)).length c5) (([] ++ ([] : List Du) ++ [((id, a) : Du)]) ++ ([] : List Du)) ∧ Below wr.heap.size wr w7 ∧ wx = w7.setCell ⟨w.heap.size, 2, none⟩ (.slice p5 (([] ++ ([] : List Du) ++ [((id, a) : Du)]) ++ ([] : List Du)).length c5))
        case first =>
          clear x0 x1 x2 f0 f1 f2
          refine wp_region_tail_drew (l1 := [_, _, _, _, _, _, _, _, _, _, _, _, _, _, _, _]) (l2 := _) (S := fun W => W.cell? ⟨w.heap.size, 2, none⟩ = some (.slice none 0 0) ∧ W.frozen? ⟨w.heap.size, 2, none⟩ = false) (by kernel_rfl) (by kernel_rfl) (hout.out _ (by assumption)) (fun hHeld => ?_)
          (refine wpAnyH_take (i := 0) (v := ?_) rfl (by kernel_rfl) (by kernel_rfl) (by kernel_rfl) (fun _ _ _ h => h) (Or.inl ⟨by rfl, ?_⟩) (by assumption) ?_; rotate_left 1; (focus (intro wz hz; (try dsimp only at hz); (try simp only [List.getElem_toArray, List.getElem_cons_succ, List.getElem_cons_zero]); go_simp; (try (rw [if_neg (by (try simp only [ByteArray.size_append]); omega)])); try (with_reducible rfl); done)))
          try simp only [Act.put, List.getElem_toArray, List.getElem_cons_succ, List.getElem_cons_zero, List.setIfInBounds_toArray, List.set_cons_zero, List.set_cons_succ]
          (refine wpAnyH_take (i := 1) (v := ?_) rfl (by kernel_rfl) (by kernel_rfl) (by kernel_rfl) (fun _ _ _ h => h) (Or.inl ⟨by rfl, ?_⟩) (by assumption) ?_; rotate_left 1; (focus (intro wz hz; (try dsimp only at hz); (try simp only [List.getElem_toArray, List.getElem_cons_succ, List.getElem_cons_zero]); go_simp; (try (rw [if_neg (by (try simp only [ByteArray.size_append]); omega)])); try (with_reducible rfl); done)))
          try simp only [Act.put, List.getElem_toArray, List.getElem_cons_succ, List.getElem_cons_zero, List.setIfInBounds_toArray, List.set_cons_zero, List.set_cons_succ]
          (refine wpAnyH_take (i := 3) (v := ?_) rfl (by kernel_rfl) (by kernel_rfl) (by kernel_rfl) (fun _ _ _ h => h) (Or.inl ⟨by rfl, ?_⟩) (by assumption) ?_; rotate_left 1; (focus (intro wz hz; (try dsimp only at hz); (try simp only [List.getElem_toArray, List.getElem_cons_succ, List.getElem_cons_zero]); go_simp; (try (rw [if_neg (by (try simp only [ByteArray.size_append]); omega)])); try (with_reducible rfl); done)))
          try simp only [Act.put, List.getElem_toArray, List.getElem_cons_succ, List.getElem_cons_zero, List.setIfInBounds_toArray, List.set_cons_zero, List.set_cons_succ]
          (refine wpAnyH_take (i := 6) (v := ?_) rfl (by kernel_rfl) (by kernel_rfl) (by kernel_rfl) (fun _ _ _ h => h) (Or.inl ⟨by rfl, ?_⟩) (by assumption) ?_; rotate_left 1; (focus (intro wz hz; (try dsimp only at hz); (try simp only [List.getElem_toArray, List.getElem_cons_succ, List.getElem_cons_zero]); go_simp; (try (rw [if_neg (by (try simp only [ByteArray.size_append]); omega)])); try (with_reducible rfl); done)))
          try simp only [Act.put, List.getElem_toArray, List.getElem_cons_succ, List.getElem_cons_zero, List.setIfInBounds_toArray, List.set_cons_zero, List.set_cons_succ]
          (refine wpAnyH_take (i := 7) (v := ?_) rfl (by kernel_rfl) (by kernel_rfl) (by kernel_rfl) (fun _ _ _ h => h) (Or.inl ⟨by rfl, ?_⟩) (by assumption) ?_; rotate_left 1; (focus (intro wz hz; (try dsimp only at hz); (try simp only [List.getElem_toArray, List.getElem_cons_succ, List.getElem_cons_zero]); go_simp; (try (rw [if_neg (by (try simp only [ByteArray.size_append]); omega)])); try (with_reducible rfl); done)))
          try simp only [Act.put, List.getElem_toArray, List.getElem_cons_succ, List.getElem_cons_zero, List.setIfInBounds_toArray, List.set_cons_zero, List.set_cons_succ]
          (refine wpAnyH_take (i := 11) (v := ?_) rfl (by kernel_rfl) (by kernel_rfl) (by kernel_rfl) (fun _ _ _ h => h) (Or.inl ⟨by rfl, ?_⟩) (by assumption) ?_; rotate_left 1; (focus (intro wz hz; (try dsimp only at hz); (try simp only [List.getElem_toArray, List.getElem_cons_succ, List.getElem_cons_zero]); go_simp; (try (rw [if_neg (by (try simp only [ByteArray.size_append]); omega)])); try (with_reducible rfl); done)))
          try simp only [Act.put, List.getElem_toArray, List.getElem_cons_succ, List.getElem_cons_zero, List.setIfInBounds_toArray, List.set_cons_zero, List.set_cons_succ]
          (refine wpAnyH_take (i := 13) (v := ?_) rfl (by kernel_rfl) (by kernel_rfl) (by kernel_rfl) (fun _ _ _ h => h) (Or.inl ⟨by rfl, ?_⟩) (by assumption) ?_; rotate_left 1; (focus (intro wz hz; (try dsimp only at hz); (try simp only [List.getElem_toArray, List.getElem_cons_succ, List.getElem_cons_zero]); go_simp; (try (rw [if_neg (by (try simp only [ByteArray.size_append]); omega)])); try (with_reducible rfl); done)))
          try simp only [Act.put, List.getElem_toArray, List.getElem_cons_succ, List.getElem_cons_zero, List.setIfInBounds_toArray, List.set_cons_zero, List.set_cons_succ]
          (refine wpAnyH_take (i := 2) (v := ?_) rfl (by kernel_rfl) (by kernel_rfl) (by kernel_rfl) (fun _ _ _ h => h) (Or.inl ⟨by rfl, ?_⟩) (by assumption) ?_; rotate_left 1; (focus (intro wz hz; (try dsimp only at hz); (try simp only [List.getElem_toArray, List.getElem_cons_succ, List.getElem_cons_zero]); go_simp; (try (rw [if_neg (by (try simp only [ByteArray.size_append]); omega)])); try (with_reducible rfl); done)))
          try simp only [Act.put, List.getElem_toArray, List.getElem_cons_succ, List.getElem_cons_zero, List.setIfInBounds_toArray, List.set_cons_zero, List.set_cons_succ]
          (refine wpAnyH_take (i := 8) (v := ?_) rfl (by kernel_rfl) (by kernel_rfl) (by kernel_rfl) (fun _ _ _ h => h) (Or.inl ⟨by rfl, ?_⟩) (by assumption) ?_; rotate_left 1; (focus (intro wz hz; (try dsimp only at hz); (try simp only [List.getElem_toArray, List.getElem_cons_succ, List.getElem_cons_zero]); go_simp; (try (rw [if_neg (by (try simp only [ByteArray.size_append]); omega)])); try (with_reducible rfl); done)))
          try simp only [Act.put, List.getElem_toArray, List.getElem_cons_succ, List.getElem_cons_zero, List.setIfInBounds_toArray, List.set_cons_zero, List.set_cons_succ]
          (refine wpAnyH_take (i := 12) (v := ?_) rfl (by kernel_rfl) (by kernel_rfl) (by kernel_rfl) (fun _ _ _ h => h) (Or.inl ⟨by rfl, ?_⟩) (by assumption) ?_; rotate_left 1; (focus (intro wz hz; (try dsimp only at hz); (try simp only [List.getElem_toArray, List.getElem_cons_succ, List.getElem_cons_zero]); go_simp; (try (rw [if_neg (by (try simp only [ByteArray.size_append]); omega)])); try (with_reducible rfl); done)))
          try simp only [Act.put, List.getElem_toArray, List.getElem_cons_succ, List.getElem_cons_zero, List.setIfInBounds_toArray, List.set_cons_zero, List.set_cons_succ]
          (refine wpAnyH_take (i := 4) (v := ?_) rfl (by kernel_rfl) (by kernel_rfl) (by kernel_rfl) (fun _ _ _ h => h) (Or.inl ⟨by rfl, ?_⟩) (by assumption) ?_; rotate_left 1; (focus (intro wz hz; (try dsimp only at hz); (try simp only [List.getElem_toArray, List.getElem_cons_succ, List.getElem_cons_zero]); go_simp; (try (rw [if_neg (by (try simp only [ByteArray.size_append]); omega)])); try (with_reducible rfl); done)))
          try simp only [Act.put, List.getElem_toArray, List.getElem_cons_succ, List.getElem_cons_zero, List.setIfInBounds_toArray, List.set_cons_zero, List.set_cons_succ]
          (refine wpAnyH_take (i := 14) (v := ?_) rfl (by kernel_rfl) (by kernel_rfl) (by kernel_rfl) (fun _ _ _ h => h) (Or.inl ⟨by rfl, ?_⟩) (by assumption) ?_; rotate_left 1; (focus (intro wz hz; (try dsimp only at hz); (try simp only [List.getElem_toArray, List.getElem_cons_succ, List.getElem_cons_zero]); go_simp; (try (rw [if_neg (by (try simp only [ByteArray.size_append]); omega)])); try (with_reducible rfl); done)))
          try simp only [Act.put, List.getElem_toArray, List.getElem_cons_succ, List.getElem_cons_zero, List.setIfInBounds_toArray, List.set_cons_zero, List.set_cons_succ]
          refine wpAnyH_ready (rs := [5, 9]) (by kernel_rfl) (by simp) ?_
          refine AllReadyH.cons rfl (fun K hK => ?_) (AllReadyH.cons rfl (fun K hK => ?_) AllReadyH.nil)
          · ((try simp only [List.getElem_toArray, List.getElem_cons_succ, List.getElem_cons_zero]); rw [if_pos (by rfl)]; refine wp_app_row lays_rdu duC_len duC_one (.tmp 70) (.tmp 74) rfl wr.heap.size [] (([] : List Du)) (.slice none 0 0) (.slice none 0 0) (by simp [Act.eval, Act.put]) (OwnR.nil _ _ _ _ _) (by simp [Act.eval, Act.put]) (IPRE _ (by (repeat (first | (with_reducible exact Below.refl _ _) | ((with_reducible refine below_alloc ?_ ?_ _); · (first | omega | (simp; done) | (simp; omega))) | ((with_reducible refine below_setCell ?_ ?_ _); · (first | omega | (simp; done) | (simp; omega))) | (with_reducible refine Below.drew ?_) | (with_reducible refine below_drewN ?_ _) | ((with_reducible refine below_call (by assumption) ?_ ?_); · (first | omega | (simp; done) | (simp; omega))))))) (by first | (simp; done) | (simp; omega) | omega) (by first | (simp; done) | (simp; omega) | omega) ?_; intro v6 w6 ho6 _ hg6; have hb6 := Below.grown (Below.refl _ _) hg6 (Nat.le_refl _) (fun j hj => by simp [Value.ownBlock] at hj); have b6 : Below wr.heap.size wr w6 := Below.trans (show Below wr.heap.size wr _ by first | exact hT0 | exact below_alloc (show wr.heap.size ≤ wr.drew.heap.size from Nat.le_refl _) hT0 _) (hb6.mono (by simp)); have z6 := b6.size; obtain ⟨p6, c6, rfl⟩ := ho6.form; clear hHeld; refine hK.out _ _ (hout.out _ b6) (fun hHeld => ?_); clear hK K)
            try simp only [Act.put, List.getElem_toArray, List.getElem_cons_succ, List.getElem_cons_zero, List.setIfInBounds_toArray, List.set_cons_zero, List.set_cons_succ]
            (refine wpAnyH_ready (rs := [9]) (by kernel_rfl) (by simp) ?_; refine AllReadyH.cons rfl (fun K hK => ?_) AllReadyH.nil; (try simp only [List.getElem_toArray, List.getElem_cons_succ, List.getElem_cons_zero]); skip; go_simp; refine hK.out _ _ (hout.out _ (by first | exact below_alloc b6.size b6 _ | exact below_alloc (show wr.heap.size ≤ wr.drew.heap.size from Nat.le_refl _) hT0 _)) (fun hHeld => ?_); clear hK K)
            try simp only [Act.put, List.getElem_toArray, List.getElem_cons_succ, List.getElem_cons_zero, List.setIfInBounds_toArray, List.set_cons_zero, List.set_cons_succ]
            (refine wpAnyH_ready (rs := [10]) (by kernel_rfl) (by simp) ?_; refine AllReadyH.cons rfl (fun K hK => ?_) AllReadyH.nil; (try simp only [List.getElem_toArray, List.getElem_cons_succ, List.getElem_cons_zero]); rw [if_pos (by rfl)]; (first | refine wp_app_row lays_rdu duC_len duC_one (.tmp 75) (.tmp 79) rfl wr.heap.size ([] ++ ([] : List Du)) [((id, a) : Du)] (.slice p6 ([] ++ ([] : List Du)).length c6) (.slice (some ⟨w6.heap.size, 0, none⟩) 1 1) (by simp [Act.eval, Act.put, go_sem]) (ho6.alloc _) (by simp [Act.eval, Act.put]) (isR_one w6 _ _ 1 rfl rfl) (by first | (simp; done) | (simp; omega) | omega) (by first | (simp; done) | (simp; omega) | omega) ?_ | refine wp_app_row lays_rdu duC_len duC_one (.tmp 75) (.tmp 79) rfl wr.heap.size ([] ++ ([] : List Du)) [((id, a) : Du)] (.slice p6 ([] ++ ([] : List Du)).length c6) (.slice (some ⟨wr.heap.size, 0, none⟩) 1 1) (by simp [Act.eval, Act.put, go_sem]) ho6 (by simp [Act.eval, Act.put]) ((isR_one (z := 2) (cs := duC) wr.drew ((id, a) : Du) _ 1 rfl rfl).call hb6) (by first | (simp; done) | (simp; omega) | omega) (by first | (simp; done) | (simp; omega) | omega) ?_); intro v7 w7 ho7 hb7 _; obtain ⟨p7, c7, rfl⟩ := ho7.form; have b7 : Below wr.heap.size wr w7 := Below.trans (show Below wr.heap.size wr _ by first | exact b6 | exact below_alloc z6 b6 _) hb7; have z7 := b7.size; clear hHeld; refine hK.out _ _ (hout.out _ b7) (fun hHeld => ?_); clear hK K)
            try simp only [Act.put, List.getElem_toArray, List.getElem_cons_succ, List.getElem_cons_zero, List.setIfInBounds_toArray, List.set_cons_zero, List.set_cons_succ]
            (refine wpAnyH_ready (rs := [15]) (by kernel_rfl) (by simp) ?_; refine AllReadyH.cons rfl (fun K hK => ?_) AllReadyH.nil; (try simp only [List.getElem_toArray, List.getElem_cons_succ, List.getElem_cons_zero]); rw [if_pos (by rfl)]; refine wp_app_row lays_rdu duC_len duC_one (.tmp 80) (.tmp 84) rfl wr.heap.size ([] ++ ([] : List Du) ++ [((id, a) : Du)]) (([] : List Du)) (.slice p7 ([] ++ ([] : List Du) ++ [((id, a) : Du)]).length c7) (.slice none 0 0) (by simp [Act.eval, Act.put, go_sem]) ho7 (by simp [Act.eval, Act.put]) (ITAIL.out _ b7) (by first | (simp; done) | (simp; omega) | omega) (by first | (simp; done) | (simp; omega) | omega) ?_; intro v8 w8 ho8 hb8 _; obtain ⟨p8, c8, rfl⟩ := ho8.form; have b8 : Below wr.heap.size wr w8 := Below.trans b7 hb8; clear hHeld; refine hK.out _ _ (hout.out _ b8) (fun hHeld => ?_); clear hK K)
            try simp only [Act.put, List.getElem_toArray, List.getElem_cons_succ, List.getElem_cons_zero, List.setIfInBounds_toArray, List.set_cons_zero, List.set_cons_succ]
            refine wpAnyH_done (by kernel_rfl) ?_ _
            refine tail_go ?_
            clear hHeld
            have hHeld : True := trivial
            (refine wpAnyH_take (i := 16) (v := ?_) rfl (by kernel_rfl) (by kernel_rfl) (by kernel_rfl) (fun _ _ _ h => h) (Or.inl ⟨by rfl, ?_⟩) (by assumption) ?_; rotate_left 1; (focus (intro wz hz; (try dsimp only at hz); (try simp only [List.getElem_toArray, List.getElem_cons_succ, List.getElem_cons_zero]); go_simp; (try (rw [if_neg (by (try simp only [ByteArray.size_append]); omega)])); try (with_reducible rfl); done)))
            try simp only [Act.put, List.getElem_toArray, List.getElem_cons_succ, List.getElem_cons_zero, List.setIfInBounds_toArray, List.set_cons_zero, List.set_cons_succ]
            (refine wpAnyH_ready (rs := [17]) (by kernel_rfl) (by simp) ?_; refine AllReadyH.cons rfl (fun K hK => ?_) AllReadyH.nil; (try simp only [List.getElem_toArray, List.getElem_cons_succ, List.getElem_cons_zero]); (obtain ⟨o0, o1⟩ := hout.out _ b8); go_simp; refine hK.out _ _ (trivial) (fun hHeld => ?_); clear hK K)
            try simp only [Act.put, List.getElem_toArray, List.getElem_cons_succ, List.getElem_cons_zero, List.setIfInBounds_toArray, List.set_cons_zero, List.set_cons_succ]
            refine wpAnyH_done (by kernel_rfl) ?_ _
            (go_wp2_with fail; all_goals (go_meet; exact ⟨p8, c8, w8, ho8, b8, by first | rfl | (simp [go_sem]; done) | (simp [go_sem]; omega)⟩))
          · ((try simp only [List.getElem_toArray, List.getElem_cons_succ, List.getElem_cons_zero]); skip; go_simp; refine hK.out _ _ (hout.out _ (by first | exact below_alloc b6.size b6 _ | exact below_alloc (show wr.heap.size ≤ wr.drew.heap.size from Nat.le_refl _) hT0 _)) (fun hHeld => ?_); clear hK K)
            try simp only [Act.put, List.getElem_toArray, List.getElem_cons_succ, List.getElem_cons_zero, List.setIfInBounds_toArray, List.set_cons_zero, List.set_cons_succ]
            (refine wpAnyH_ready (rs := [5]) (by kernel_rfl) (by simp) ?_; refine AllReadyH.cons rfl (fun K hK => ?_) AllReadyH.nil; (try simp only [List.getElem_toArray, List.getElem_cons_succ, List.getElem_cons_zero]); rw [if_pos (by rfl)]; refine wp_app_row lays_rdu duC_len duC_one (.tmp 70) (.tmp 74) rfl wr.heap.size [] (([] : List Du)) (.slice none 0 0) (.slice none 0 0) (by simp [Act.eval, Act.put]) (OwnR.nil _ _ _ _ _) (by simp [Act.eval, Act.put]) (IPRE _ (by (repeat (first | (with_reducible exact Below.refl _ _) | ((with_reducible refine below_alloc ?_ ?_ _); · (first | omega | (simp; done) | (simp; omega))) | ((with_reducible refine below_setCell ?_ ?_ _); · (first | omega | (simp; done) | (simp; omega))) | (with_reducible refine Below.drew ?_) | (with_reducible refine below_drewN ?_ _) | ((with_reducible refine below_call (by assumption) ?_ ?_); · (first | omega | (simp; done) | (simp; omega))))))) (by first | (simp; done) | (simp; omega) | omega) (by first | (simp; done) | (simp; omega) | omega) ?_; intro v6 w6 ho6 _ hg6; have hb6 := Below.grown (Below.refl _ _) hg6 (Nat.le_refl _) (fun j hj => by simp [Value.ownBlock] at hj); have b6 : Below wr.heap.size wr w6 := Below.trans (show Below wr.heap.size wr _ by first | exact hT0 | exact below_alloc (show wr.heap.size ≤ wr.drew.heap.size from Nat.le_refl _) hT0 _) (hb6.mono (by simp)); have z6 := b6.size; obtain ⟨p6, c6, rfl⟩ := ho6.form; clear hHeld; refine hK.out _ _ (hout.out _ b6) (fun hHeld => ?_); clear hK K)
            try simp only [Act.put, List.getElem_toArray, List.getElem_cons_succ, List.getElem_cons_zero, List.setIfInBounds_toArray, List.set_cons_zero, List.set_cons_succ]
            (refine wpAnyH_ready (rs := [10]) (by kernel_rfl) (by simp) ?_; refine AllReadyH.cons rfl (fun K hK => ?_) AllReadyH.nil; (try simp only [List.getElem_toArray, List.getElem_cons_succ, List.getElem_cons_zero]); rw [if_pos (by rfl)]; (first | refine wp_app_row lays_rdu duC_len duC_one (.tmp 75) (.tmp 79) rfl wr.heap.size ([] ++ ([] : List Du)) [((id, a) : Du)] (.slice p6 ([] ++ ([] : List Du)).length c6) (.slice (some ⟨w6.heap.size, 0, none⟩) 1 1) (by simp [Act.eval, Act.put, go_sem]) (ho6.alloc _) (by simp [Act.eval, Act.put]) (isR_one w6 _ _ 1 rfl rfl) (by first | (simp; done) | (simp; omega) | omega) (by first | (simp; done) | (simp; omega) | omega) ?_ | refine wp_app_row lays_rdu duC_len duC_one (.tmp 75) (.tmp 79) rfl wr.heap.size ([] ++ ([] : List Du)) [((id, a) : Du)] (.slice p6 ([] ++ ([] : List Du)).length c6) (.slice (some ⟨wr.heap.size, 0, none⟩) 1 1) (by simp [Act.eval, Act.put, go_sem]) ho6 (by simp [Act.eval, Act.put]) ((isR_one (z := 2) (cs := duC) wr.drew ((id, a) : Du) _ 1 rfl rfl).call hb6) (by first | (simp; done) | (simp; omega) | omega) (by first | (simp; done) | (simp; omega) | omega) ?_); intro v7 w7 ho7 hb7 _; obtain ⟨p7, c7, rfl⟩ := ho7.form; have b7 : Below wr.heap.size wr w7 := Below.trans (show Below wr.heap.size wr _ by first | exact b6 | exact below_alloc z6 b6 _) hb7; have z7 := b7.size; clear hHeld; refine hK.out _ _ (hout.out _ b7) (fun hHeld => ?_); clear hK K)
            try simp only [Act.put, List.getElem_toArray, List.getElem_cons_succ, List.getElem_cons_zero, List.setIfInBounds_toArray, List.set_cons_zero, List.set_cons_succ]
            (refine wpAnyH_ready (rs := [15]) (by kernel_rfl) (by simp) ?_; refine AllReadyH.cons rfl (fun K hK => ?_) AllReadyH.nil; (try simp only [List.getElem_toArray, List.getElem_cons_succ, List.getElem_cons_zero]); rw [if_pos (by rfl)]; refine wp_app_row lays_rdu duC_len duC_one (.tmp 80) (.tmp 84) rfl wr.heap.size ([] ++ ([] : List Du) ++ [((id, a) : Du)]) (([] : List Du)) (.slice p7 ([] ++ ([] : List Du) ++ [((id, a) : Du)]).length c7) (.slice none 0 0) (by simp [Act.eval, Act.put, go_sem]) ho7 (by simp [Act.eval, Act.put]) (ITAIL.out _ b7) (by first | (simp; done) | (simp; omega) | omega) (by first | (simp; done) | (simp; omega) | omega) ?_; intro v8 w8 ho8 hb8 _; obtain ⟨p8, c8, rfl⟩ := ho8.form; have b8 : Below wr.heap.size wr w8 := Below.trans b7 hb8; clear hHeld; refine hK.out _ _ (hout.out _ b8) (fun hHeld => ?_); clear hK K)
            try simp only [Act.put, List.getElem_toArray, List.getElem_cons_succ, List.getElem_cons_zero, List.setIfInBounds_toArray, List.set_cons_zero, List.set_cons_succ]
            refine wpAnyH_done (by kernel_rfl) ?_ _
            refine tail_go ?_
            clear hHeld
            have hHeld : True := trivial
            (refine wpAnyH_take (i := 16) (v := ?_) rfl (by kernel_rfl) (by kernel_rfl) (by kernel_rfl) (fun _ _ _ h => h) (Or.inl ⟨by rfl, ?_⟩) (by assumption) ?_; rotate_left 1; (focus (intro wz hz; (try dsimp only at hz); (try simp only [List.getElem_toArray, List.getElem_cons_succ, List.getElem_cons_zero]); go_simp; (try (rw [if_neg (by (try simp only [ByteArray.size_append]); omega)])); try (with_reducible rfl); done)))
            try simp only [Act.put, List.getElem_toArray, List.getElem_cons_succ, List.getElem_cons_zero, List.setIfInBounds_toArray, List.set_cons_zero, List.set_cons_succ]
            (refine wpAnyH_ready (rs := [17]) (by kernel_rfl) (by simp) ?_; refine AllReadyH.cons rfl (fun K hK => ?_) AllReadyH.nil; (try simp only [List.getElem_toArray, List.getElem_cons_succ, List.getElem_cons_zero]); (obtain ⟨o0, o1⟩ := hout.out _ b8); go_simp; refine hK.out _ _ (trivial) (fun hHeld => ?_); clear hK K)
            try simp only [Act.put, List.getElem_toArray, List.getElem_cons_succ, List.getElem_cons_zero, List.setIfInBounds_toArray, List.set_cons_zero, List.set_cons_succ]
            refine wpAnyH_done (by kernel_rfl) ?_ _
            (go_wp2_with fail; all_goals (go_meet; exact ⟨p8, c8, w8, ho8, b8, by first | rfl | (simp [go_sem]; done) | (simp [go_sem]; omega)⟩))
        case rest =>
          obtain ⟨p5, c5, w7, ho, hbx, rfl⟩ := hcut
          obtain ⟨⟨⟨x0, x1, x2⟩, f0, f1, f2⟩, ⟨z0, z1, z2⟩, j0, j1, j2⟩ := (HXZ.out).imp (fun h => h.call hbx) (fun h => h.call hbx)
          have HO7 := Lib.hid ho
          have hzx := hbx.size
          have Bx := hB.trans (hbx.mono hB.size)
          have hne : w.heap.size ≠ w.heap.size + 1 := by omega
          clear ho hout IPRE hT0
          go_wp2
          refine bodyPost_ret (v := .tuple #[.agg #[.int .i64 N, .int .i64 now, .slice p5 (([] ++ ([] : List Du) ++ [((id, a) : Du)]) ++ ([] : List Du)).length c5], .int .i64 0]) (by simp [results, Try.results18, go_sem, z0, z1, z2, go_sem]) rfl ⟨_, rfl, ?_, ?_⟩
          · rw [HQ.out]
            exact ((((HO7.out.set (p := ⟨w.heap.size, 2, none⟩) (by show w.heap.size < _; omega) _).set (p := ⟨w.heap.size + 1, 0, none⟩) (by show w.heap.size + 1 < _; omega) _).set (p := ⟨w.heap.size + 1, 1, none⟩) (by show w.heap.size + 1 < _; omega) _).set (p := ⟨w.heap.size + 1, 2, none⟩) (by show w.heap.size + 1 < _; omega) _).mono (by omega)
          · (repeat (first | (with_reducible exact Below.refl _ _) | ((with_reducible refine below_alloc ?_ ?_ _); · (first | omega | (simp; done) | (simp; omega))) | ((with_reducible refine below_setCell ?_ ?_ _); · (first | omega | (simp; done) | (simp; omega))) | (with_reducible refine Below.drew ?_) | (with_reducible refine below_drewN ?_ _) | ((with_reducible refine below_call (by assumption) ?_ ?_); · (first | omega | (simp; done) | (simp; omega)))))
      · rcases hex with e | ⟨hlt, hx⟩ | ⟨hlt, hx1, hx2⟩
        · have hlt' : ¬ (k : Int) < C.length := by omega
          clear e
          go_upto_region 8 with fail
          have hk3 : (k : Int) ≤ (c1 : Nat) := by omega
          have hk1 : (k : Int) ≤ C.length := by omega
          have hkc : (C.length : Int) ≤ (c1 : Nat) := by omega
          have hout : Hid (∀ W, Below wr.heap.size wr W → W.cell? ⟨w.heap.size, 2, none⟩ = some (.slice (some ⟨g, 0, none⟩) C.length c1) ∧ W.frozen? ⟨w.heap.size, 2, none⟩ = false) := Lib.hid (fun W hb => ⟨(HXZ.out.1.call hb).1.2.2, (HXZ.out.1.call hb).2.2.2⟩)
          have IPRE : ∀ W, Below wr.heap.size wr W → IsR 2 duC W (.slice (some ⟨g, 0, none⟩) k c1) (C.take k) := fun W hb => (by have := isR_sub (i := 0) (n := k) (cap := c1) (HR.out.call hb).cut (by omega) rfl; simpa using this)
          have ITAIL : Hid (∀ W, Below wr.heap.size wr W → IsR 2 duC W (.slice (if c1 = k then some ⟨g, 0, none⟩ else some ⟨g, k * 2, none⟩) (C.length - k) (c1 - k)) (C.drop k)) := Lib.hid (fun W hb => (by split <;> (first | (have := isR_sub (i := k) (n := C.length - k) (cap := c1 - k) (o := k * 2) (HR.out.call hb).cut (by omega) (by omega); rw [List.take_of_length_le (by rw [List.length_drop]; exact Nat.le_refl _)] at this; exact this) | (have e0 : C.drop k = [] := List.drop_eq_nil_of_le (by omega); rw [e0, show C.length - k = 0 by omega]; exact isR_none _ _ _))))
          have hT0 : Below wr.heap.size wr wr.drew := Below.drew (Below.refl _ _)
          go_cut [] (fun wx => ∃ p5 c5 w7, OwnR 65 2 duC w7 wr.heap.size (.slice p5 (([] ++ C.take k ++ [((id, a) : Du)]) ++ C.drop k).length c5) (([] ++ C.take k ++ [((id, a) : Du)]) ++ C.drop k) ∧ Below wr.heap.size wr w7 ∧ wx = w7.setCell ⟨w.heap.size, 2, none⟩ (.slice p5 (([] ++ C.take k ++ [((id, a) : Du)]) ++ C.drop k).length c5))
          case first =>
            clear x0 x1 x2 f0 f1 f2
            refine wp_region_tail_drew (l1 := [_, _, _, _, _, _, _, _, _, _, _, _, _, _, _, _]) (l2 := _) (S := fun W => W.cell? ⟨w.heap.size, 2, none⟩ = some (.slice (some ⟨g, 0, none⟩) C.length c1) ∧ W.frozen? ⟨w.heap.size, 2, none⟩ = false) (by kernel_rfl) (by kernel_rfl) (hout.out _ (by assumption)) (fun hHeld => ?_)
            (refine wpAnyH_take (i := 0) (v := ?_) rfl (by kernel_rfl) (by kernel_rfl) (by kernel_rfl) (fun _ _ _ h => h) (Or.inl ⟨by rfl, ?_⟩) (by assumption) ?_; rotate_left 1; (focus (intro wz hz; (try dsimp only at hz); (try simp only [List.getElem_toArray, List.getElem_cons_succ, List.getElem_cons_zero]); go_simp; (try (rw [if_neg (by (try simp only [ByteArray.size_append]); omega)])); try (with_reducible rfl); done)))
            try simp only [Act.put, List.getElem_toArray, List.getElem_cons_succ, List.getElem_cons_zero, List.setIfInBounds_toArray, List.set_cons_zero, List.set_cons_succ]
            (refine wpAnyH_take (i := 1) (v := ?_) rfl (by kernel_rfl) (by kernel_rfl) (by kernel_rfl) (fun _ _ _ h => h) (Or.inl ⟨by rfl, ?_⟩) (by assumption) ?_; rotate_left 1; (focus (intro wz hz; (try dsimp only at hz); (try simp only [List.getElem_toArray, List.getElem_cons_succ, List.getElem_cons_zero]); go_simp; (try (rw [if_neg (by (try simp only [ByteArray.size_append]); omega)])); try (with_reducible rfl); done)))
            try simp only [Act.put, List.getElem_toArray, List.getElem_cons_succ, List.getElem_cons_zero, List.setIfInBounds_toArray, List.set_cons_zero, List.set_cons_succ]
            (refine wpAnyH_take (i := 3) (v := ?_) rfl (by kernel_rfl) (by kernel_rfl) (by kernel_rfl) (fun _ _ _ h => h) (Or.inl ⟨by rfl, ?_⟩) (by assumption) ?_; rotate_left 1; (focus (intro wz hz; (try dsimp only at hz); (try simp only [List.getElem_toArray, List.getElem_cons_succ, List.getElem_cons_zero]); go_simp; (try (rw [if_neg (by (try simp only [ByteArray.size_append]); omega)])); try (with_reducible rfl); done)))
            try simp only [Act.put, List.getElem_toArray, List.getElem_cons_succ, List.getElem_cons_zero, List.setIfInBounds_toArray, List.set_cons_zero, List.set_cons_succ]
            (refine wpAnyH_take (i := 6) (v := ?_) rfl (by kernel_rfl) (by kernel_rfl) (by kernel_rfl) (fun _ _ _ h => h) (Or.inl ⟨by rfl, ?_⟩) (by assumption) ?_; rotate_left 1; (focus (intro wz hz; (try dsimp only at hz); (try simp only [List.getElem_toArray, List.getElem_cons_succ, List.getElem_cons_zero]); go_simp; (try (rw [if_neg (by (try simp only [ByteArray.size_append]); omega)])); try (with_reducible rfl); done)))
            try simp only [Act.put, List.getElem_toArray, List.getElem_cons_succ, List.getElem_cons_zero, List.setIfInBounds_toArray, List.set_cons_zero, List.set_cons_succ]
            (refine wpAnyH_take (i := 7) (v := ?_) rfl (by kernel_rfl) (by kernel_rfl) (by kernel_rfl) (fun _ _ _ h => h) (Or.inl ⟨by rfl, ?_⟩) (by assumption) ?_; rotate_left 1; (focus (intro wz hz; (try dsimp only at hz); (try simp only [List.getElem_toArray, List.getElem_cons_succ, List.getElem_cons_zero]); go_simp; (try (rw [if_neg (by (try simp only [ByteArray.size_append]); omega)])); try (with_reducible rfl); done)))
            try simp only [Act.put, List.getElem_toArray, List.getElem_cons_succ, List.getElem_cons_zero, List.setIfInBounds_toArray, List.set_cons_zero, List.set_cons_succ]
            (refine wpAnyH_take (i := 11) (v := ?_) rfl (by kernel_rfl) (by kernel_rfl) (by kernel_rfl) (fun _ _ _ h => h) (Or.inl ⟨by rfl, ?_⟩) (by assumption) ?_; rotate_left 1; (focus (intro wz hz; (try dsimp only at hz); (try simp only [List.getElem_toArray, List.getElem_cons_succ, List.getElem_cons_zero]); go_simp; (try (rw [if_neg (by (try simp only [ByteArray.size_append]); omega)])); try (with_reducible rfl); done)))
            try simp only [Act.put, List.getElem_toArray, List.getElem_cons_succ, List.getElem_cons_zero, List.setIfInBounds_toArray, List.set_cons_zero, List.set_cons_succ]
            (refine wpAnyH_take (i := 13) (v := ?_) rfl (by kernel_rfl) (by kernel_rfl) (by kernel_rfl) (fun _ _ _ h => h) (Or.inl ⟨by rfl, ?_⟩) (by assumption) ?_; rotate_left 1; (focus (intro wz hz; (try dsimp only at hz); (try simp only [List.getElem_toArray, List.getElem_cons_succ, List.getElem_cons_zero]); go_simp; (try (rw [if_neg (by (try simp only [ByteArray.size_append]); omega)])); try (with_reducible rfl); done)))
            try simp only [Act.put, List.getElem_toArray, List.getElem_cons_succ, List.getElem_cons_zero, List.setIfInBounds_toArray, List.set_cons_zero, List.set_cons_succ]
            (refine wpAnyH_take (i := 2) (v := ?_) rfl (by kernel_rfl) (by kernel_rfl) (by kernel_rfl) (fun _ _ _ h => h) (Or.inl ⟨by rfl, ?_⟩) (by assumption) ?_; rotate_left 1; (focus (intro wz hz; (try dsimp only at hz); (try simp only [List.getElem_toArray, List.getElem_cons_succ, List.getElem_cons_zero]); go_simp; (try (rw [if_neg (by (try simp only [ByteArray.size_append]); omega)])); try (with_reducible rfl); done)))
            try simp only [Act.put, List.getElem_toArray, List.getElem_cons_succ, List.getElem_cons_zero, List.setIfInBounds_toArray, List.set_cons_zero, List.set_cons_succ]
            (refine wpAnyH_take (i := 8) (v := ?_) rfl (by kernel_rfl) (by kernel_rfl) (by kernel_rfl) (fun _ _ _ h => h) (Or.inl ⟨by rfl, ?_⟩) (by assumption) ?_; rotate_left 1; (focus (intro wz hz; (try dsimp only at hz); (try simp only [List.getElem_toArray, List.getElem_cons_succ, List.getElem_cons_zero]); go_simp; (try (rw [if_neg (by (try simp only [ByteArray.size_append]); omega)])); try (with_reducible rfl); done)))
            try simp only [Act.put, List.getElem_toArray, List.getElem_cons_succ, List.getElem_cons_zero, List.setIfInBounds_toArray, List.set_cons_zero, List.set_cons_succ]
            (refine wpAnyH_take (i := 12) (v := ?_) rfl (by kernel_rfl) (by kernel_rfl) (by kernel_rfl) (fun _ _ _ h => h) (Or.inl ⟨by rfl, ?_⟩) (by assumption) ?_; rotate_left 1; (focus (intro wz hz; (try dsimp only at hz); (try simp only [List.getElem_toArray, List.getElem_cons_succ, List.getElem_cons_zero]); go_simp; (try (rw [if_neg (by (try simp only [ByteArray.size_append]); omega)])); try (with_reducible rfl); done)))
            try simp only [Act.put, List.getElem_toArray, List.getElem_cons_succ, List.getElem_cons_zero, List.setIfInBounds_toArray, List.set_cons_zero, List.set_cons_succ]
            (refine wpAnyH_take (i := 4) (v := ?_) rfl (by kernel_rfl) (by kernel_rfl) (by kernel_rfl) (fun _ _ _ h => h) (Or.inl ⟨by rfl, ?_⟩) (by assumption) ?_; rotate_left 1; (focus (intro wz hz; (try dsimp only at hz); (try simp only [List.getElem_toArray, List.getElem_cons_succ, List.getElem_cons_zero]); go_simp; (try (rw [if_neg (by (try simp only [ByteArray.size_append]); omega)])); try (with_reducible rfl); done)))
            try simp only [Act.put, List.getElem_toArray, List.getElem_cons_succ, List.getElem_cons_zero, List.setIfInBounds_toArray, List.set_cons_zero, List.set_cons_succ]
            (refine wpAnyH_take (i := 14) (v := ?_) rfl (by kernel_rfl) (by kernel_rfl) (by kernel_rfl) (fun _ _ _ h => h) (Or.inl ⟨by rfl, ?_⟩) (by assumption) ?_; rotate_left 1; (focus (intro wz hz; (try dsimp only at hz); (try simp only [List.getElem_toArray, List.getElem_cons_succ, List.getElem_cons_zero]); go_simp; (try (rw [if_neg (by (try simp only [ByteArray.size_append]); omega)])); try (with_reducible rfl); done)))
            try simp only [Act.put, List.getElem_toArray, List.getElem_cons_succ, List.getElem_cons_zero, List.setIfInBounds_toArray, List.set_cons_zero, List.set_cons_succ]
            refine wpAnyH_ready (rs := [5, 9]) (by kernel_rfl) (by simp) ?_
            refine AllReadyH.cons rfl (fun K hK => ?_) (AllReadyH.cons rfl (fun K hK => ?_) AllReadyH.nil)
            · ((try simp only [List.getElem_toArray, List.getElem_cons_succ, List.getElem_cons_zero]); rw [if_pos (by rfl)]; refine wp_app_row lays_rdu duC_len duC_one (.tmp 70) (.tmp 74) rfl wr.heap.size [] (C.take k) (.slice none 0 0) (.slice (some ⟨g, 0, none⟩) k c1) (by simp [Act.eval, Act.put]) (OwnR.nil _ _ _ _ _) (by simp [Act.eval, Act.put]) (IPRE _ (by (repeat (first | (with_reducible exact Below.refl _ _) | ((with_reducible refine below_alloc ?_ ?_ _); · (first | omega | (simp; done) | (simp; omega))) | ((with_reducible refine below_setCell ?_ ?_ _); · (first | omega | (simp; done) | (simp; omega))) | (with_reducible refine Below.drew ?_) | (with_reducible refine below_drewN ?_ _) | ((with_reducible refine below_call (by assumption) ?_ ?_); · (first | omega | (simp; done) | (simp; omega))))))) (by first | (simp; done) | (simp; omega) | omega) (by first | (simp; done) | (simp; omega) | omega) ?_; intro v6 w6 ho6 _ hg6; have hb6 := Below.grown (Below.refl _ _) hg6 (Nat.le_refl _) (fun j hj => by simp [Value.ownBlock] at hj); have b6 : Below wr.heap.size wr w6 := Below.trans (show Below wr.heap.size wr _ by first | exact hT0 | exact below_alloc (show wr.heap.size ≤ wr.drew.heap.size from Nat.le_refl _) hT0 _) (hb6.mono (by simp)); have z6 := b6.size; obtain ⟨p6, c6, rfl⟩ := ho6.form; clear hHeld; refine hK.out _ _ (hout.out _ b6) (fun hHeld => ?_); clear hK K)
              try simp only [Act.put, List.getElem_toArray, List.getElem_cons_succ, List.getElem_cons_zero, List.setIfInBounds_toArray, List.set_cons_zero, List.set_cons_succ]
              (refine wpAnyH_ready (rs := [9]) (by kernel_rfl) (by simp) ?_; refine AllReadyH.cons rfl (fun K hK => ?_) AllReadyH.nil; (try simp only [List.getElem_toArray, List.getElem_cons_succ, List.getElem_cons_zero]); skip; go_simp; refine hK.out _ _ (hout.out _ (by first | exact below_alloc b6.size b6 _ | exact below_alloc (show wr.heap.size ≤ wr.drew.heap.size from Nat.le_refl _) hT0 _)) (fun hHeld => ?_); clear hK K)
              try simp only [Act.put, List.getElem_toArray, List.getElem_cons_succ, List.getElem_cons_zero, List.setIfInBounds_toArray, List.set_cons_zero, List.set_cons_succ]
              (refine wpAnyH_ready (rs := [10]) (by kernel_rfl) (by simp) ?_; refine AllReadyH.cons rfl (fun K hK => ?_) AllReadyH.nil; (try simp only [List.getElem_toArray, List.getElem_cons_succ, List.getElem_cons_zero]); rw [if_pos (by rfl)]; (first | refine wp_app_row lays_rdu duC_len duC_one (.tmp 75) (.tmp 79) rfl wr.heap.size ([] ++ C.take k) [((id, a) : Du)] (.slice p6 ([] ++ C.take k).length c6) (.slice (some ⟨w6.heap.size, 0, none⟩) 1 1) (by simp [Act.eval, Act.put, Nat.min_eq_left hk]) (ho6.alloc _) (by simp [Act.eval, Act.put]) (isR_one w6 _ _ 1 rfl rfl) (by first | (simp; done) | (simp; omega) | omega) (by first | (simp; done) | (simp; omega) | omega) ?_ | refine wp_app_row lays_rdu duC_len duC_one (.tmp 75) (.tmp 79) rfl wr.heap.size ([] ++ C.take k) [((id, a) : Du)] (.slice p6 ([] ++ C.take k).length c6) (.slice (some ⟨wr.heap.size, 0, none⟩) 1 1) (by simp [Act.eval, Act.put, Nat.min_eq_left hk]) ho6 (by simp [Act.eval, Act.put]) ((isR_one (z := 2) (cs := duC) wr.drew ((id, a) : Du) _ 1 rfl rfl).call hb6) (by first | (simp; done) | (simp; omega) | omega) (by first | (simp; done) | (simp; omega) | omega) ?_); intro v7 w7 ho7 hb7 _; obtain ⟨p7, c7, rfl⟩ := ho7.form; have b7 : Below wr.heap.size wr w7 := Below.trans (show Below wr.heap.size wr _ by first | exact b6 | exact below_alloc z6 b6 _) hb7; have z7 := b7.size; clear hHeld; refine hK.out _ _ (hout.out _ b7) (fun hHeld => ?_); clear hK K)
              try simp only [Act.put, List.getElem_toArray, List.getElem_cons_succ, List.getElem_cons_zero, List.setIfInBounds_toArray, List.set_cons_zero, List.set_cons_succ]
              (refine wpAnyH_ready (rs := [15]) (by kernel_rfl) (by simp) ?_; refine AllReadyH.cons rfl (fun K hK => ?_) AllReadyH.nil; (try simp only [List.getElem_toArray, List.getElem_cons_succ, List.getElem_cons_zero]); rw [if_pos (by rfl)]; refine wp_app_row lays_rdu duC_len duC_one (.tmp 80) (.tmp 84) rfl wr.heap.size ([] ++ C.take k ++ [((id, a) : Du)]) (C.drop k) (.slice p7 ([] ++ C.take k ++ [((id, a) : Du)]).length c7) (.slice (if c1 = k then some ⟨g, 0, none⟩ else some ⟨g, k * 2, none⟩) (C.length - k) (c1 - k)) (by simp [Act.eval, Act.put, Nat.min_eq_left hk]) ho7 (by simp [Act.eval, Act.put]) (ITAIL.out _ b7) (by first | (simp; done) | (simp; omega) | omega) (by first | (simp; done) | (simp; omega) | omega) ?_; intro v8 w8 ho8 hb8 _; obtain ⟨p8, c8, rfl⟩ := ho8.form; have b8 : Below wr.heap.size wr w8 := Below.trans b7 hb8; clear hHeld; refine hK.out _ _ (hout.out _ b8) (fun hHeld => ?_); clear hK K)
              try simp only [Act.put, List.getElem_toArray, List.getElem_cons_succ, List.getElem_cons_zero, List.setIfInBounds_toArray, List.set_cons_zero, List.set_cons_succ]
              refine wpAnyH_done (by kernel_rfl) ?_ _
              refine tail_go ?_
              clear hHeld
              have hHeld : True := trivial
              (refine wpAnyH_take (i := 16) (v := ?_) rfl (by kernel_rfl) (by kernel_rfl) (by kernel_rfl) (fun _ _ _ h => h) (Or.inl ⟨by rfl, ?_⟩) (by assumption) ?_; rotate_left 1; (focus (intro wz hz; (try dsimp only at hz); (try simp only [List.getElem_toArray, List.getElem_cons_succ, List.getElem_cons_zero]); go_simp; (try (rw [if_neg (by (try simp only [ByteArray.size_append]); omega)])); try (with_reducible rfl); done)))
              try simp only [Act.put, List.getElem_toArray, List.getElem_cons_succ, List.getElem_cons_zero, List.setIfInBounds_toArray, List.set_cons_zero, List.set_cons_succ]
              (refine wpAnyH_ready (rs := [17]) (by kernel_rfl) (by simp) ?_; refine AllReadyH.cons rfl (fun K hK => ?_) AllReadyH.nil; (try simp only [List.getElem_toArray, List.getElem_cons_succ, List.getElem_cons_zero]); (obtain ⟨o0, o1⟩ := hout.out _ b8); go_simp; refine hK.out _ _ (trivial) (fun hHeld => ?_); clear hK K)
              try simp only [Act.put, List.getElem_toArray, List.getElem_cons_succ, List.getElem_cons_zero, List.setIfInBounds_toArray, List.set_cons_zero, List.set_cons_succ]
              refine wpAnyH_done (by kernel_rfl) ?_ _
              (go_wp2_with fail; all_goals (go_meet; exact ⟨p8, c8, w8, ho8, b8, by first | rfl | (simp [Nat.min_eq_left hk]; done) | (simp [Nat.min_eq_left hk]; omega)⟩))
            · ((try simp only [List.getElem_toArray, List.getElem_cons_succ, List.getElem_cons_zero]); skip; go_simp; refine hK.out _ _ (hout.out _ (by first | exact below_alloc b6.size b6 _ | exact below_alloc (show wr.heap.size ≤ wr.drew.heap.size from Nat.le_refl _) hT0 _)) (fun hHeld => ?_); clear hK K)
              try simp only [Act.put, List.getElem_toArray, List.getElem_cons_succ, List.getElem_cons_zero, List.setIfInBounds_toArray, List.set_cons_zero, List.set_cons_succ]
              (refine wpAnyH_ready (rs := [5]) (by kernel_rfl) (by simp) ?_; refine AllReadyH.cons rfl (fun K hK => ?_) AllReadyH.nil; (try simp only [List.getElem_toArray, List.getElem_cons_succ, List.getElem_cons_zero]); rw [if_pos (by rfl)]; refine wp_app_row lays_rdu duC_len duC_one (.tmp 70) (.tmp 74) rfl wr.heap.size [] (C.take k) (.slice none 0 0) (.slice (some ⟨g, 0, none⟩) k c1) (by simp [Act.eval, Act.put]) (OwnR.nil _ _ _ _ _) (by simp [Act.eval, Act.put]) (IPRE _ (by (repeat (first | (with_reducible exact Below.refl _ _) | ((with_reducible refine below_alloc ?_ ?_ _); · (first | omega | (simp; done) | (simp; omega))) | ((with_reducible refine below_setCell ?_ ?_ _); · (first | omega | (simp; done) | (simp; omega))) | (with_reducible refine Below.drew ?_) | (with_reducible refine below_drewN ?_ _) | ((with_reducible refine below_call (by assumption) ?_ ?_); · (first | omega | (simp; done) | (simp; omega))))))) (by first | (simp; done) | (simp; omega) | omega) (by first | (simp; done) | (simp; omega) | omega) ?_; intro v6 w6 ho6 _ hg6; have hb6 := Below.grown (Below.refl _ _) hg6 (Nat.le_refl _) (fun j hj => by simp [Value.ownBlock] at hj); have b6 : Below wr.heap.size wr w6 := Below.trans (show Below wr.heap.size wr _ by first | exact hT0 | exact below_alloc (show wr.heap.size ≤ wr.drew.heap.size from Nat.le_refl _) hT0 _) (hb6.mono (by simp)); have z6 := b6.size; obtain ⟨p6, c6, rfl⟩ := ho6.form; clear hHeld; refine hK.out _ _ (hout.out _ b6) (fun hHeld => ?_); clear hK K)
              try simp only [Act.put, List.getElem_toArray, List.getElem_cons_succ, List.getElem_cons_zero, List.setIfInBounds_toArray, List.set_cons_zero, List.set_cons_succ]
              (refine wpAnyH_ready (rs := [10]) (by kernel_rfl) (by simp) ?_; refine AllReadyH.cons rfl (fun K hK => ?_) AllReadyH.nil; (try simp only [List.getElem_toArray, List.getElem_cons_succ, List.getElem_cons_zero]); rw [if_pos (by rfl)]; (first | refine wp_app_row lays_rdu duC_len duC_one (.tmp 75) (.tmp 79) rfl wr.heap.size ([] ++ C.take k) [((id, a) : Du)] (.slice p6 ([] ++ C.take k).length c6) (.slice (some ⟨w6.heap.size, 0, none⟩) 1 1) (by simp [Act.eval, Act.put, Nat.min_eq_left hk]) (ho6.alloc _) (by simp [Act.eval, Act.put]) (isR_one w6 _ _ 1 rfl rfl) (by first | (simp; done) | (simp; omega) | omega) (by first | (simp; done) | (simp; omega) | omega) ?_ | refine wp_app_row lays_rdu duC_len duC_one (.tmp 75) (.tmp 79) rfl wr.heap.size ([] ++ C.take k) [((id, a) : Du)] (.slice p6 ([] ++ C.take k).length c6) (.slice (some ⟨wr.heap.size, 0, none⟩) 1 1) (by simp [Act.eval, Act.put, Nat.min_eq_left hk]) ho6 (by simp [Act.eval, Act.put]) ((isR_one (z := 2) (cs := duC) wr.drew ((id, a) : Du) _ 1 rfl rfl).call hb6) (by first | (simp; done) | (simp; omega) | omega) (by first | (simp; done) | (simp; omega) | omega) ?_); intro v7 w7 ho7 hb7 _; obtain ⟨p7, c7, rfl⟩ := ho7.form; have b7 : Below wr.heap.size wr w7 := Below.trans (show Below wr.heap.size wr _ by first | exact b6 | exact below_alloc z6 b6 _) hb7; have z7 := b7.size; clear hHeld; refine hK.out _ _ (hout.out _ b7) (fun hHeld => ?_); clear hK K)
              try simp only [Act.put, List.getElem_toArray, List.getElem_cons_succ, List.getElem_cons_zero, List.setIfInBounds_toArray, List.set_cons_zero, List.set_cons_succ]
              (refine wpAnyH_ready (rs := [15]) (by kernel_rfl) (by simp) ?_; refine AllReadyH.cons rfl (fun K hK => ?_) AllReadyH.nil; (try simp only [List.getElem_toArray, List.getElem_cons_succ, List.getElem_cons_zero]); rw [if_pos (by rfl)]; refine wp_app_row lays_rdu duC_len duC_one (.tmp 80) (.tmp 84) rfl wr.heap.size ([] ++ C.take k ++ [((id, a) : Du)]) (C.drop k) (.slice p7 ([] ++ C.take k ++ [((id, a) : Du)]).length c7) (.slice (if c1 = k then some ⟨g, 0, none⟩ else some ⟨g, k * 2, none⟩) (C.length - k) (c1 - k)) (by simp [Act.eval, Act.put, Nat.min_eq_left hk]) ho7 (by simp [Act.eval, Act.put]) (ITAIL.out _ b7) (by first | (simp; done) | (simp; omega) | omega) (by first | (simp; done) | (simp; omega) | omega) ?_; intro v8 w8 ho8 hb8 _; obtain ⟨p8, c8, rfl⟩ := ho8.form; have b8 : Below wr.heap.size wr w8 := Below.trans b7 hb8; clear hHeld; refine hK.out _ _ (hout.out _ b8) (fun hHeld => ?_); clear hK K)
              try simp only [Act.put, List.getElem_toArray, List.getElem_cons_succ, List.getElem_cons_zero, List.setIfInBounds_toArray, List.set_cons_zero, List.set_cons_succ]
              refine wpAnyH_done (by kernel_rfl) ?_ _
              refine tail_go ?_
              clear hHeld
              have hHeld : True := trivial
              (refine wpAnyH_take (i := 16) (v := ?_) rfl (by kernel_rfl) (by kernel_rfl) (by kernel_rfl) (fun _ _ _ h => h) (Or.inl ⟨by rfl, ?_⟩) (by assumption) ?_; rotate_left 1; (focus (intro wz hz; (try dsimp only at hz); (try simp only [List.getElem_toArray, List.getElem_cons_succ, List.getElem_cons_zero]); go_simp; (try (rw [if_neg (by (try simp only [ByteArray.size_append]); omega)])); try (with_reducible rfl); done)))
              try simp only [Act.put, List.getElem_toArray, List.getElem_cons_succ, List.getElem_cons_zero, List.setIfInBounds_toArray, List.set_cons_zero, List.set_cons_succ]
              (refine wpAnyH_ready (rs := [17]) (by kernel_rfl) (by simp) ?_; refine AllReadyH.cons rfl (fun K hK => ?_) AllReadyH.nil; (try simp only [List.getElem_toArray, List.getElem_cons_succ, List.getElem_cons_zero]); (obtain ⟨o0, o1⟩ := hout.out _ b8); go_simp; refine hK.out _ _ (trivial) (fun hHeld => ?_); clear hK K)
              try simp only [Act.put, List.getElem_toArray, List.getElem_cons_succ, List.getElem_cons_zero, List.setIfInBounds_toArray, List.set_cons_zero, List.set_cons_succ]
              refine wpAnyH_done (by kernel_rfl) ?_ _
              (go_wp2_with fail; all_goals (go_meet; exact ⟨p8, c8, w8, ho8, b8, by first | rfl | (simp [Nat.min_eq_left hk]; done) | (simp [Nat.min_eq_left hk]; omega)⟩))
          case rest =>
            obtain ⟨p5, c5, w7, ho, hbx, rfl⟩ := hcut
            obtain ⟨⟨⟨x0, x1, x2⟩, f0, f1, f2⟩, ⟨z0, z1, z2⟩, j0, j1, j2⟩ := (HXZ.out).imp (fun h => h.call hbx) (fun h => h.call hbx)
            have HO7 := Lib.hid ho
            have hzx := hbx.size
            have Bx := hB.trans (hbx.mono hB.size)
            have hne : w.heap.size ≠ w.heap.size + 1 := by omega
            clear ho hout IPRE hT0
            go_wp2
            refine bodyPost_ret (v := .tuple #[.agg #[.int .i64 N, .int .i64 now, .slice p5 (([] ++ C.take k ++ [((id, a) : Du)]) ++ C.drop k).length c5], .int .i64 0]) (by simp [results, Try.results18, go_sem, z0, z1, z2, Nat.min_eq_left hk]) rfl ⟨_, rfl, ?_, ?_⟩
            · rw [HQ.out]
              exact ((((HO7.out.set (p := ⟨w.heap.size, 2, none⟩) (by show w.heap.size < _; omega) _).set (p := ⟨w.heap.size + 1, 0, none⟩) (by show w.heap.size + 1 < _; omega) _).set (p := ⟨w.heap.size + 1, 1, none⟩) (by show w.heap.size + 1 < _; omega) _).set (p := ⟨w.heap.size + 1, 2, none⟩) (by show w.heap.size + 1 < _; omega) _).mono (by omega)
            · (repeat (first | (with_reducible exact Below.refl _ _) | ((with_reducible refine below_alloc ?_ ?_ _); · (first | omega | (simp; done) | (simp; omega))) | ((with_reducible refine below_setCell ?_ ?_ _); · (first | omega | (simp; done) | (simp; omega))) | (with_reducible refine Below.drew ?_) | (with_reducible refine below_drewN ?_ _) | ((with_reducible refine below_call (by assumption) ?_ ?_); · (first | omega | (simp; done) | (simp; omega)))))
        · have hlt' : (k : Int) < C.length := by omega
          obtain ⟨b, off, hb, g0, g1⟩ := HP.out k hlt
          cases hb
          simp only [Nat.zero_add] at g0 g1
          generalize C[k].1 = s at g0
          generalize C[k].2 = t at g1 hx
          have hx' : ¬ t < a := by omega
          have hx2 : (t == a) = false := by simp; omega
          go_upto_region 8 with fail
          clear g0 g1 hx hx' hx2
          have hk3 : (k : Int) ≤ (c1 : Nat) := by omega
          have hk1 : (k : Int) ≤ C.length := by omega
          have hkc : (C.length : Int) ≤ (c1 : Nat) := by omega
          have hck : ¬ c1 = k := by omega
          have hout : Hid (∀ W, Below wr.heap.size wr W → W.cell? ⟨w.heap.size, 2, none⟩ = some (.slice (some ⟨g, 0, none⟩) C.length c1) ∧ W.frozen? ⟨w.heap.size, 2, none⟩ = false) := Lib.hid (fun W hb => ⟨(HXZ.out.1.call hb).1.2.2, (HXZ.out.1.call hb).2.2.2⟩)
          have IPRE : ∀ W, Below wr.heap.size wr W → IsR 2 duC W (.slice (some ⟨g, 0, none⟩) k c1) (C.take k) := fun W hb => (by have := isR_sub (i := 0) (n := k) (cap := c1) (HR.out.call hb).cut (by omega) rfl; simpa using this)
          have ITAIL : Hid (∀ W, Below wr.heap.size wr W → IsR 2 duC W (.slice (some ⟨g, k * 2, none⟩) (C.length - k) (c1 - k)) (C.drop k)) := Lib.hid (fun W hb => (by have := isR_sub (i := k) (n := C.length - k) (cap := c1 - k) (o := k * 2) (HR.out.call hb).cut (by omega) (by omega); rw [List.take_of_length_le (by rw [List.length_drop]; exact Nat.le_refl _)] at this; exact this))
          have hT0 : Below wr.heap.size wr wr.drew := Below.drew (Below.refl _ _)
          go_cut [] (fun wx => ∃ p5 c5 w7, OwnR 65 2 duC w7 wr.heap.size (.slice p5 (([] ++ C.take k ++ [((id, a) : Du)]) ++ C.drop k).length c5) (([] ++ C.take k ++ [((id, a) : Du)]) ++ C.drop k) ∧ Below wr.heap.size wr w7 ∧ wx = w7.setCell ⟨w.heap.size, 2, none⟩ (.slice p5 (([] ++ C.take k ++ [((id, a) : Du)]) ++ C.drop k).length c5))
          case first =>
            clear x0 x1 x2 f0 f1 f2
            refine wp_region_tail_drew (l1 := [_, _, _, _, _, _, _, _, _, _, _, _, _, _, _, _]) (l2 := _) (S := fun W => W.cell? ⟨w.heap.size, 2, none⟩ = some (.slice (some ⟨g, 0, none⟩) C.length c1) ∧ W.frozen? ⟨w.heap.size, 2, none⟩ = false) (by kernel_rfl) (by kernel_rfl) (hout.out _ (by assumption)) (fun hHeld => ?_)
            (refine wpAnyH_take (i := 0) (v := ?_) rfl (by kernel_rfl) (by kernel_rfl) (by kernel_rfl) (fun _ _ _ h => h) (Or.inl ⟨by rfl, ?_⟩) (by assumption) ?_; rotate_left 1; (focus (intro wz hz; (try dsimp only at hz); (try simp only [List.getElem_toArray, List.getElem_cons_succ, List.getElem_cons_zero]); go_simp; (try (rw [if_neg (by (try simp only [ByteArray.size_append]); omega)])); try (with_reducible rfl); done)))
            try simp only [Act.put, List.getElem_toArray, List.getElem_cons_succ, List.getElem_cons_zero, List.setIfInBounds_toArray, List.set_cons_zero, List.set_cons_succ]
            (refine wpAnyH_take (i := 1) (v := ?_) rfl (by kernel_rfl) (by kernel_rfl) (by kernel_rfl) (fun _ _ _ h => h) (Or.inl ⟨by rfl, ?_⟩) (by assumption) ?_; rotate_left 1; (focus (intro wz hz; (try dsimp only at hz); (try simp only [List.getElem_toArray, List.getElem_cons_succ, List.getElem_cons_zero]); go_simp; (try (rw [if_neg (by (try simp only [ByteArray.size_append]); omega)])); try (with_reducible rfl); done)))
            try simp only [Act.put, List.getElem_toArray, List.getElem_cons_succ, List.getElem_cons_zero, List.setIfInBounds_toArray, List.set_cons_zero, List.set_cons_succ]
            (refine wpAnyH_take (i := 3) (v := ?_) rfl (by kernel_rfl) (by kernel_rfl) (by kernel_rfl) (fun _ _ _ h => h) (Or.inl ⟨by rfl, ?_⟩) (by assumption) ?_; rotate_left 1; (focus (intro wz hz; (try dsimp only at hz); (try simp only [List.getElem_toArray, List.getElem_cons_succ, List.getElem_cons_zero]); go_simp; (try (rw [if_neg (by (try simp only [ByteArray.size_append]); omega)])); try (with_reducible rfl); done)))
            try simp only [Act.put, List.getElem_toArray, List.getElem_cons_succ, List.getElem_cons_zero, List.setIfInBounds_toArray, List.set_cons_zero, List.set_cons_succ]
            (refine wpAnyH_take (i := 6) (v := ?_) rfl (by kernel_rfl) (by kernel_rfl) (by kernel_rfl) (fun _ _ _ h => h) (Or.inl ⟨by rfl, ?_⟩) (by assumption) ?_; rotate_left 1; (focus (intro wz hz; (try dsimp only at hz); (try simp only [List.getElem_toArray, List.getElem_cons_succ, List.getElem_cons_zero]); go_simp; (try (rw [if_neg (by (try simp only [ByteArray.size_append]); omega)])); try (with_reducible rfl); done)))
            try simp only [Act.put, List.getElem_toArray, List.getElem_cons_succ, List.getElem_cons_zero, List.setIfInBounds_toArray, List.set_cons_zero, List.set_cons_succ]
            (refine wpAnyH_take (i := 7) (v := ?_) rfl (by kernel_rfl) (by kernel_rfl) (by kernel_rfl) (fun _ _ _ h => h) (Or.inl ⟨by rfl, ?_⟩) (by assumption) ?_; rotate_left 1; (focus (intro wz hz; (try dsimp only at hz); (try simp only [List.getElem_toArray, List.getElem_cons_succ, List.getElem_cons_zero]); go_simp; (try (rw [if_neg (by (try simp only [ByteArray.size_append]); omega)])); try (with_reducible rfl); done)))
            try simp only [Act.put, List.getElem_toArray, List.getElem_cons_succ, List.getElem_cons_zero, List.setIfInBounds_toArray, List.set_cons_zero, List.set_cons_succ]
            (refine wpAnyH_take (i := 11) (v := ?_) rfl (by kernel_rfl) (by kernel_rfl) (by kernel_rfl) (fun _ _ _ h => h) (Or.inl ⟨by rfl, ?_⟩) (by assumption) ?_; rotate_left 1; (focus (intro wz hz; (try dsimp only at hz); (try simp only [List.getElem_toArray, List.getElem_cons_succ, List.getElem_cons_zero]); go_simp; (try (rw [if_neg (by (try simp only [ByteArray.size_append]); omega)])); try (with_reducible rfl); done)))
            try simp only [Act.put, List.getElem_toArray, List.getElem_cons_succ, List.getElem_cons_zero, List.setIfInBounds_toArray, List.set_cons_zero, List.set_cons_succ]
            (refine wpAnyH_take (i := 13) (v := ?_) rfl (by kernel_rfl) (by kernel_rfl) (by kernel_rfl) (fun _ _ _ h => h) (Or.inl ⟨by rfl, ?_⟩) (by assumption) ?_; rotate_left 1; (focus (intro wz hz; (try dsimp only at hz); (try simp only [List.getElem_toArray, List.getElem_cons_succ, List.getElem_cons_zero]); go_simp; (try (rw [if_neg (by (try simp only [ByteArray.size_append]); omega)])); try (with_reducible rfl); done)))
            try simp only [Act.put, List.getElem_toArray, List.getElem_cons_succ, List.getElem_cons_zero, List.setIfInBounds_toArray, List.set_cons_zero, List.set_cons_succ]
            (refine wpAnyH_take (i := 2) (v := ?_) rfl (by kernel_rfl) (by kernel_rfl) (by kernel_rfl) (fun _ _ _ h => h) (Or.inl ⟨by rfl, ?_⟩) (by assumption) ?_; rotate_left 1; (focus (intro wz hz; (try dsimp only at hz); (try simp only [List.getElem_toArray, List.getElem_cons_succ, List.getElem_cons_zero]); go_simp; (try (rw [if_neg (by (try simp only [ByteArray.size_append]); omega)])); try (with_reducible rfl); done)))
            try simp only [Act.put, List.getElem_toArray, List.getElem_cons_succ, List.getElem_cons_zero, List.setIfInBounds_toArray, List.set_cons_zero, List.set_cons_succ]
            (refine wpAnyH_take (i := 8) (v := ?_) rfl (by kernel_rfl) (by kernel_rfl) (by kernel_rfl) (fun _ _ _ h => h) (Or.inl ⟨by rfl, ?_⟩) (by assumption) ?_; rotate_left 1; (focus (intro wz hz; (try dsimp only at hz); (try simp only [List.getElem_toArray, List.getElem_cons_succ, List.getElem_cons_zero]); go_simp; (try (rw [if_neg (by (try simp only [ByteArray.size_append]); omega)])); try (with_reducible rfl); done)))
            try simp only [Act.put, List.getElem_toArray, List.getElem_cons_succ, List.getElem_cons_zero, List.setIfInBounds_toArray, List.set_cons_zero, List.set_cons_succ]
            (refine wpAnyH_take (i := 12) (v := ?_) rfl (by kernel_rfl) (by kernel_rfl) (by kernel_rfl) (fun _ _ _ h => h) (Or.inl ⟨by rfl, ?_⟩) (by assumption) ?_; rotate_left 1; (focus (intro wz hz; (try dsimp only at hz); (try simp only [List.getElem_toArray, List.getElem_cons_succ, List.getElem_cons_zero]); go_simp; (try (rw [if_neg (by (try simp only [ByteArray.size_append]); omega)])); try (with_reducible rfl); done)))
            try simp only [Act.put, List.getElem_toArray, List.getElem_cons_succ, List.getElem_cons_zero, List.setIfInBounds_toArray, List.set_cons_zero, List.set_cons_succ]
            (refine wpAnyH_take (i := 4) (v := ?_) rfl (by kernel_rfl) (by kernel_rfl) (by kernel_rfl) (fun _ _ _ h => h) (Or.inl ⟨by rfl, ?_⟩) (by assumption) ?_; rotate_left 1; (focus (intro wz hz; (try dsimp only at hz); (try simp only [List.getElem_toArray, List.getElem_cons_succ, List.getElem_cons_zero]); go_simp; (try (rw [if_neg (by (try simp only [ByteArray.size_append]); omega)])); try (with_reducible rfl); done)))
            try simp only [Act.put, List.getElem_toArray, List.getElem_cons_succ, List.getElem_cons_zero, List.setIfInBounds_toArray, List.set_cons_zero, List.set_cons_succ]
            (refine wpAnyH_take (i := 14) (v := ?_) rfl (by kernel_rfl) (by kernel_rfl) (by kernel_rfl) (fun _ _ _ h => h) (Or.inl ⟨by rfl, ?_⟩) (by assumption) ?_; rotate_left 1; (focus (intro wz hz; (try dsimp only at hz); (try simp only [List.getElem_toArray, List.getElem_cons_succ, List.getElem_cons_zero]); go_simp; (try (rw [if_neg (by (try simp only [ByteArray.size_append]); omega)])); try (with_reducible rfl); done)))
            try simp only [Act.put, List.getElem_toArray, List.getElem_cons_succ, List.getElem_cons_zero, List.setIfInBounds_toArray, List.set_cons_zero, List.set_cons_succ]
            refine wpAnyH_ready (rs := [5, 9]) (by kernel_rfl) (by simp) ?_
            refine AllReadyH.cons rfl (fun K hK => ?_) (AllReadyH.cons rfl (fun K hK => ?_) AllReadyH.nil)
            · ((try simp only [List.getElem_toArray, List.getElem_cons_succ, List.getElem_cons_zero]); rw [if_pos (by rfl)]; refine wp_app_row lays_rdu duC_len duC_one (.tmp 70) (.tmp 74) rfl wr.heap.size [] (C.take k) (.slice none 0 0) (.slice (some ⟨g, 0, none⟩) k c1) (by simp [Act.eval, Act.put]) (OwnR.nil _ _ _ _ _) (by simp [Act.eval, Act.put]) (IPRE _ (by (repeat (first | (with_reducible exact Below.refl _ _) | ((with_reducible refine below_alloc ?_ ?_ _); · (first | omega | (simp; done) | (simp; omega))) | ((with_reducible refine below_setCell ?_ ?_ _); · (first | omega | (simp; done) | (simp; omega))) | (with_reducible refine Below.drew ?_) | (with_reducible refine below_drewN ?_ _) | ((with_reducible refine below_call (by assumption) ?_ ?_); · (first | omega | (simp; done) | (simp; omega))))))) (by first | (simp; done) | (simp; omega) | omega) (by first | (simp; done) | (simp; omega) | omega) ?_; intro v6 w6 ho6 _ hg6; have hb6 := Below.grown (Below.refl _ _) hg6 (Nat.le_refl _) (fun j hj => by simp [Value.ownBlock] at hj); have b6 : Below wr.heap.size wr w6 := Below.trans (show Below wr.heap.size wr _ by first | exact hT0 | exact below_alloc (show wr.heap.size ≤ wr.drew.heap.size from Nat.le_refl _) hT0 _) (hb6.mono (by simp)); have z6 := b6.size; obtain ⟨p6, c6, rfl⟩ := ho6.form; clear hHeld; refine hK.out _ _ (hout.out _ b6) (fun hHeld => ?_); clear hK K)
              try simp only [Act.put, List.getElem_toArray, List.getElem_cons_succ, List.getElem_cons_zero, List.setIfInBounds_toArray, List.set_cons_zero, List.set_cons_succ]
              (refine wpAnyH_ready (rs := [9]) (by kernel_rfl) (by simp) ?_; refine AllReadyH.cons rfl (fun K hK => ?_) AllReadyH.nil; (try simp only [List.getElem_toArray, List.getElem_cons_succ, List.getElem_cons_zero]); skip; go_simp; refine hK.out _ _ (hout.out _ (by first | exact below_alloc b6.size b6 _ | exact below_alloc (show wr.heap.size ≤ wr.drew.heap.size from Nat.le_refl _) hT0 _)) (fun hHeld => ?_); clear hK K)
              try simp only [Act.put, List.getElem_toArray, List.getElem_cons_succ, List.getElem_cons_zero, List.setIfInBounds_toArray, List.set_cons_zero, List.set_cons_succ]
              (refine wpAnyH_ready (rs := [10]) (by kernel_rfl) (by simp) ?_; refine AllReadyH.cons rfl (fun K hK => ?_) AllReadyH.nil; (try simp only [List.getElem_toArray, List.getElem_cons_succ, List.getElem_cons_zero]); rw [if_pos (by rfl)]; (first | refine wp_app_row lays_rdu duC_len duC_one (.tmp 75) (.tmp 79) rfl wr.heap.size ([] ++ C.take k) [((id, a) : Du)] (.slice p6 ([] ++ C.take k).length c6) (.slice (some ⟨w6.heap.size, 0, none⟩) 1 1) (by simp [Act.eval, Act.put, Nat.min_eq_left hk, hck]) (ho6.alloc _) (by simp [Act.eval, Act.put]) (isR_one w6 _ _ 1 rfl rfl) (by first | (simp; done) | (simp; omega) | omega) (by first | (simp; done) | (simp; omega) | omega) ?_ | refine wp_app_row lays_rdu duC_len duC_one (.tmp 75) (.tmp 79) rfl wr.heap.size ([] ++ C.take k) [((id, a) : Du)] (.slice p6 ([] ++ C.take k).length c6) (.slice (some ⟨wr.heap.size, 0, none⟩) 1 1) (by simp [Act.eval, Act.put, Nat.min_eq_left hk, hck]) ho6 (by simp [Act.eval, Act.put]) ((isR_one (z := 2) (cs := duC) wr.drew ((id, a) : Du) _ 1 rfl rfl).call hb6) (by first | (simp; done) | (simp; omega) | omega) (by first | (simp; done) | (simp; omega) | omega) ?_); intro v7 w7 ho7 hb7 _; obtain ⟨p7, c7, rfl⟩ := ho7.form; have b7 : Below wr.heap.size wr w7 := Below.trans (show Below wr.heap.size wr _ by first | exact b6 | exact below_alloc z6 b6 _) hb7; have z7 := b7.size; clear hHeld; refine hK.out _ _ (hout.out _ b7) (fun hHeld => ?_); clear hK K)
              try simp only [Act.put, List.getElem_toArray, List.getElem_cons_succ, List.getElem_cons_zero, List.setIfInBounds_toArray, List.set_cons_zero, List.set_cons_succ]
              (refine wpAnyH_ready (rs := [15]) (by kernel_rfl) (by simp) ?_; refine AllReadyH.cons rfl (fun K hK => ?_) AllReadyH.nil; (try simp only [List.getElem_toArray, List.getElem_cons_succ, List.getElem_cons_zero]); rw [if_pos (by rfl)]; refine wp_app_row lays_rdu duC_len duC_one (.tmp 80) (.tmp 84) rfl wr.heap.size ([] ++ C.take k ++ [((id, a) : Du)]) (C.drop k) (.slice p7 ([] ++ C.take k ++ [((id, a) : Du)]).length c7) (.slice (some ⟨g, k * 2, none⟩) (C.length - k) (c1 - k)) (by simp [Act.eval, Act.put, Nat.min_eq_left hk, hck]) ho7 (by simp [Act.eval, Act.put]) (ITAIL.out _ b7) (by first | (simp; done) | (simp; omega) | omega) (by first | (simp; done) | (simp; omega) | omega) ?_; intro v8 w8 ho8 hb8 _; obtain ⟨p8, c8, rfl⟩ := ho8.form; have b8 : Below wr.heap.size wr w8 := Below.trans b7 hb8; clear hHeld; refine hK.out _ _ (hout.out _ b8) (fun hHeld => ?_); clear hK K)
              try simp only [Act.put, List.getElem_toArray, List.getElem_cons_succ, List.getElem_cons_zero, List.setIfInBounds_toArray, List.set_cons_zero, List.set_cons_succ]
              refine wpAnyH_done (by kernel_rfl) ?_ _
              refine tail_go ?_
              clear hHeld
              have hHeld : True := trivial
              (refine wpAnyH_take (i := 16) (v := ?_) rfl (by kernel_rfl) (by kernel_rfl) (by kernel_rfl) (fun _ _ _ h => h) (Or.inl ⟨by rfl, ?_⟩) (by assumption) ?_; rotate_left 1; (focus (intro wz hz; (try dsimp only at hz); (try simp only [List.getElem_toArray, List.getElem_cons_succ, List.getElem_cons_zero]); go_simp; (try (rw [if_neg (by (try simp only [ByteArray.size_append]); omega)])); try (with_reducible rfl); done)))
              try simp only [Act.put, List.getElem_toArray, List.getElem_cons_succ, List.getElem_cons_zero, List.setIfInBounds_toArray, List.set_cons_zero, List.set_cons_succ]
              (refine wpAnyH_ready (rs := [17]) (by kernel_rfl) (by simp) ?_; refine AllReadyH.cons rfl (fun K hK => ?_) AllReadyH.nil; (try simp only [List.getElem_toArray, List.getElem_cons_succ, List.getElem_cons_zero]); (obtain ⟨o0, o1⟩ := hout.out _ b8); go_simp; refine hK.out _ _ (trivial) (fun hHeld => ?_); clear hK K)
              try simp only [Act.put, List.getElem_toArray, List.getElem_cons_succ, List.getElem_cons_zero, List.setIfInBounds_toArray, List.set_cons_zero, List.set_cons_succ]
              refine wpAnyH_done (by kernel_rfl) ?_ _
              (go_wp2_with fail; all_goals (go_meet; exact ⟨p8, c8, w8, ho8, b8, by first | rfl | (simp [Nat.min_eq_left hk, hck]; done) | (simp [Nat.min_eq_left hk, hck]; omega)⟩))
            · ((try simp only [List.getElem_toArray, List.getElem_cons_succ, List.getElem_cons_zero]); skip; go_simp; refine hK.out _ _ (hout.out _ (by first | exact below_alloc b6.size b6 _ | exact below_alloc (show wr.heap.size ≤ wr.drew.heap.size from Nat.le_refl _) hT0 _)) (fun hHeld => ?_); clear hK K)
              try simp only [Act.put, List.getElem_toArray, List.getElem_cons_succ, List.getElem_cons_zero, List.setIfInBounds_toArray, List.set_cons_zero, List.set_cons_succ]
              (refine wpAnyH_ready (rs := [5]) (by kernel_rfl) (by simp) ?_; refine AllReadyH.cons rfl (fun K hK => ?_) AllReadyH.nil; (try simp only [List.getElem_toArray, List.getElem_cons_succ, List.getElem_cons_zero]); rw [if_pos (by rfl)]; refine wp_app_row lays_rdu duC_len duC_one (.tmp 70) (.tmp 74) rfl wr.heap.size [] (C.take k) (.slice none 0 0) (.slice (some ⟨g, 0, none⟩) k c1) (by simp [Act.eval, Act.put]) (OwnR.nil _ _ _ _ _) (by simp [Act.eval, Act.put]) (IPRE _ (by (repeat (first | (with_reducible exact Below.refl _ _) | ((with_reducible refine below_alloc ?_ ?_ _); · (first | omega | (simp; done) | (simp; omega))) | ((with_reducible refine below_setCell ?_ ?_ _); · (first | omega | (simp; done) | (simp; omega))) | (with_reducible refine Below.drew ?_) | (with_reducible refine below_drewN ?_ _) | ((with_reducible refine below_call (by assumption) ?_ ?_); · (first | omega | (simp; done) | (simp; omega))))))) (by first | (simp; done) | (simp; omega) | omega) (by first | (simp; done) | (simp; omega) | omega) ?_; intro v6 w6 ho6 _ hg6; have hb6 := Below.grown (Below.refl _ _) hg6 (Nat.le_refl _) (fun j hj => by simp [Value.ownBlock] at hj); have b6 : Below wr.heap.size wr w6 := Below.trans (show Below wr.heap.size wr _ by first | exact hT0 | exact below_alloc (show wr.heap.size ≤ wr.drew.heap.size from Nat.le_refl _) hT0 _) (hb6.mono (by simp)); have z6 := b6.size; obtain ⟨p6, c6, rfl⟩ := ho6.form; clear hHeld; refine hK.out _ _ (hout.out _ b6) (fun hHeld => ?_); clear hK K)
              try simp only [Act.put, List.getElem_toArray, List.getElem_cons_succ, List.getElem_cons_zero, List.setIfInBounds_toArray, List.set_cons_zero, List.set_cons_succ]
              (refine wpAnyH_ready (rs := [10]) (by kernel_rfl) (by simp) ?_; refine AllReadyH.cons rfl (fun K hK => ?_) AllReadyH.nil; (try simp only [List.getElem_toArray, List.getElem_cons_succ, List.getElem_cons_zero]); rw [if_pos (by rfl)]; (first | refine wp_app_row lays_rdu duC_len duC_one (.tmp 75) (.tmp 79) rfl wr.heap.size ([] ++ C.take k) [((id, a) : Du)] (.slice p6 ([] ++ C.take k).length c6) (.slice (some ⟨w6.heap.size, 0, none⟩) 1 1) (by simp [Act.eval, Act.put, Nat.min_eq_left hk, hck]) (ho6.alloc _) (by simp [Act.eval, Act.put]) (isR_one w6 _ _ 1 rfl rfl) (by first | (simp; done) | (simp; omega) | omega) (by first | (simp; done) | (simp; omega) | omega) ?_ | refine wp_app_row lays_rdu duC_len duC_one (.tmp 75) (.tmp 79) rfl wr.heap.size ([] ++ C.take k) [((id, a) : Du)] (.slice p6 ([] ++ C.take k).length c6) (.slice (some ⟨wr.heap.size, 0, none⟩) 1 1) (by simp [Act.eval, Act.put, Nat.min_eq_left hk, hck]) ho6 (by simp [Act.eval, Act.put]) ((isR_one (z := 2) (cs := duC) wr.drew ((id, a) : Du) _ 1 rfl rfl).call hb6) (by first | (simp; done) | (simp; omega) | omega) (by first | (simp; done) | (simp; omega) | omega) ?_); intro v7 w7 ho7 hb7 _; obtain ⟨p7, c7, rfl⟩ := ho7.form; have b7 : Below wr.heap.size wr w7 := Below.trans (show Below wr.heap.size wr _ by first | exact b6 | exact below_alloc z6 b6 _) hb7; have z7 := b7.size; clear hHeld; refine hK.out _ _ (hout.out _ b7) (fun hHeld => ?_); clear hK K)
              try simp only [Act.put, List.getElem_toArray, List.getElem_cons_succ, List.getElem_cons_zero, List.setIfInBounds_toArray, List.set_cons_zero, List.set_cons_succ]
              (refine wpAnyH_ready (rs := [15]) (by kernel_rfl) (by simp) ?_; refine AllReadyH.cons rfl (fun K hK => ?_) AllReadyH.nil; (try simp only [List.getElem_toArray, List.getElem_cons_succ, List.getElem_cons_zero]); rw [if_pos (by rfl)]; refine wp_app_row lays_rdu duC_len duC_one (.tmp 80) (.tmp 84) rfl wr.heap.size ([] ++ C.take k ++ [((id, a) : Du)]) (C.drop k) (.slice p7 ([] ++ C.take k ++ [((id, a) : Du)]).length c7) (.slice (some ⟨g, k * 2, none⟩) (C.length - k) (c1 - k)) (by simp [Act.eval, Act.put, Nat.min_eq_left hk, hck]) ho7 (by simp [Act.eval, Act.put]) (ITAIL.out _ b7) (by first | (simp; done) | (simp; omega) | omega) (by first | (simp; done) | (simp; omega) | omega) ?_; intro v8 w8 ho8 hb8 _; obtain ⟨p8, c8, rfl⟩ := ho8.form; have b8 : Below wr.heap.size wr w8 := Below.trans b7 hb8; clear hHeld; refine hK.out _ _ (hout.out _ b8) (fun hHeld => ?_); clear hK K)
              try simp only [Act.put, List.getElem_toArray, List.getElem_cons_succ, List.getElem_cons_zero, List.setIfInBounds_toArray, List.set_cons_zero, List.set_cons_succ]
              refine wpAnyH_done (by kernel_rfl) ?_ _
              refine tail_go ?_
              clear hHeld
              have hHeld : True := trivial
              (refine wpAnyH_take (i := 16) (v := ?_) rfl (by kernel_rfl) (by kernel_rfl) (by kernel_rfl) (fun _ _ _ h => h) (Or.inl ⟨by rfl, ?_⟩) (by assumption) ?_; rotate_left 1; (focus (intro wz hz; (try dsimp only at hz); (try simp only [List.getElem_toArray, List.getElem_cons_succ, List.getElem_cons_zero]); go_simp; (try (rw [if_neg (by (try simp only [ByteArray.size_append]); omega)])); try (with_reducible rfl); done)))
              try simp only [Act.put, List.getElem_toArray, List.getElem_cons_succ, List.getElem_cons_zero, List.setIfInBounds_toArray, List.set_cons_zero, List.set_cons_succ]
              (refine wpAnyH_ready (rs := [17]) (by kernel_rfl) (by simp) ?_; refine AllReadyH.cons rfl (fun K hK => ?_) AllReadyH.nil; (try simp only [List.getElem_toArray, List.getElem_cons_succ, List.getElem_cons_zero]); (obtain ⟨o0, o1⟩ := hout.out _ b8); go_simp; refine hK.out _ _ (trivial) (fun hHeld => ?_); clear hK K)
              try simp only [Act.put, List.getElem_toArray, List.getElem_cons_succ, List.getElem_cons_zero, List.setIfInBounds_toArray, List.set_cons_zero, List.set_cons_succ]
              refine wpAnyH_done (by kernel_rfl) ?_ _
              (go_wp2_with fail; all_goals (go_meet; exact ⟨p8, c8, w8, ho8, b8, by first | rfl | (simp [Nat.min_eq_left hk, hck]; done) | (simp [Nat.min_eq_left hk, hck]; omega)⟩))
          case rest =>
            obtain ⟨p5, c5, w7, ho, hbx, rfl⟩ := hcut
            obtain ⟨⟨⟨x0, x1, x2⟩, f0, f1, f2⟩, ⟨z0, z1, z2⟩, j0, j1, j2⟩ := (HXZ.out).imp (fun h => h.call hbx) (fun h => h.call hbx)
            have HO7 := Lib.hid ho
            have hzx := hbx.size
            have Bx := hB.trans (hbx.mono hB.size)
            have hne : w.heap.size ≠ w.heap.size + 1 := by omega
            clear ho hout IPRE hT0
            go_wp2
            refine bodyPost_ret (v := .tuple #[.agg #[.int .i64 N, .int .i64 now, .slice p5 (([] ++ C.take k ++ [((id, a) : Du)]) ++ C.drop k).length c5], .int .i64 0]) (by simp [results, Try.results18, go_sem, z0, z1, z2, Nat.min_eq_left hk, hck]) rfl ⟨_, rfl, ?_, ?_⟩
            · rw [HQ.out]
              exact ((((HO7.out.set (p := ⟨w.heap.size, 2, none⟩) (by show w.heap.size < _; omega) _).set (p := ⟨w.heap.size + 1, 0, none⟩) (by show w.heap.size + 1 < _; omega) _).set (p := ⟨w.heap.size + 1, 1, none⟩) (by show w.heap.size + 1 < _; omega) _).set (p := ⟨w.heap.size + 1, 2, none⟩) (by show w.heap.size + 1 < _; omega) _).mono (by omega)
            · (repeat (first | (with_reducible exact Below.refl _ _) | ((with_reducible refine below_alloc ?_ ?_ _); · (first | omega | (simp; done) | (simp; omega))) | ((with_reducible refine below_setCell ?_ ?_ _); · (first | omega | (simp; done) | (simp; omega))) | (with_reducible refine Below.drew ?_) | (with_reducible refine below_drewN ?_ _) | ((with_reducible refine below_call (by assumption) ?_ ?_); · (first | omega | (simp; done) | (simp; omega)))))
        · have hlt' : (k : Int) < C.length := by omega
          obtain ⟨b, off, hb, g0, g1⟩ := HP.out k hlt
          cases hb
          simp only [Nat.zero_add] at g0 g1
          generalize C[k].1 = s at g0 hx2
          generalize C[k].2 = t at g1 hx1
          have hx' : ¬ s < id := by omega
          have hta : (t == a) = true := by simp [hx1]
          have htn : ¬ t < a := by omega
          clear hx1
          go_upto_region 8 with fail
          clear g0 g1 hx2 hx'
          have hk3 : (k : Int) ≤ (c1 : Nat) := by omega
          have hk1 : (k : Int) ≤ C.length := by omega
          have hkc : (C.length : Int) ≤ (c1 : Nat) := by omega
          have hck : ¬ c1 = k := by omega
          have hout : Hid (∀ W, Below wr.heap.size wr W → W.cell? ⟨w.heap.size, 2, none⟩ = some (.slice (some ⟨g, 0, none⟩) C.length c1) ∧ W.frozen? ⟨w.heap.size, 2, none⟩ = false) := Lib.hid (fun W hb => ⟨(HXZ.out.1.call hb).1.2.2, (HXZ.out.1.call hb).2.2.2⟩)
          have IPRE : ∀ W, Below wr.heap.size wr W → IsR 2 duC W (.slice (some ⟨g, 0, none⟩) k c1) (C.take k) := fun W hb => (by have := isR_sub (i := 0) (n := k) (cap := c1) (HR.out.call hb).cut (by omega) rfl; simpa using this)
          have ITAIL : Hid (∀ W, Below wr.heap.size wr W → IsR 2 duC W (.slice (some ⟨g, k * 2, none⟩) (C.length - k) (c1 - k)) (C.drop k)) := Lib.hid (fun W hb => (by have := isR_sub (i := k) (n := C.length - k) (cap := c1 - k) (o := k * 2) (HR.out.call hb).cut (by omega) (by omega); rw [List.take_of_length_le (by rw [List.length_drop]; exact Nat.le_refl _)] at this; exact this))
          have hT0 : Below wr.heap.size wr wr.drew := Below.drew (Below.refl _ _)
          go_cut [] (fun wx => ∃ p5 c5 w7, OwnR 65 2 duC w7 wr.heap.size (.slice p5 (([] ++ C.take k ++ [((id, a) : Du)]) ++ C.drop k).length c5) (([] ++ C.take k ++ [((id, a) : Du)]) ++ C.drop k) ∧ Below wr.heap.size wr w7 ∧ wx = w7.setCell ⟨w.heap.size, 2, none⟩ (.slice p5 (([] ++ C.take k ++ [((id, a) : Du)]) ++ C.drop k).length c5))
          case first =>
            clear x0 x1 x2 f0 f1 f2
            refine wp_region_tail_drew (l1 := [_, _, _, _, _, _, _, _, _, _, _, _, _, _, _, _]) (l2 := _) (S := fun W => W.cell? ⟨w.heap.size, 2, none⟩ = some (.slice (some ⟨g, 0, none⟩) C.length c1) ∧ W.frozen? ⟨w.heap.size, 2, none⟩ = false) (by kernel_rfl) (by kernel_rfl) (hout.out _ (by assumption)) (fun hHeld => ?_)
            (refine wpAnyH_take (i := 0) (v := ?_) rfl (by kernel_rfl) (by kernel_rfl) (by kernel_rfl) (fun _ _ _ h => h) (Or.inl ⟨by rfl, ?_⟩) (by assumption) ?_; rotate_left 1; (focus (intro wz hz; (try dsimp only at hz); (try simp only [List.getElem_toArray, List.getElem_cons_succ, List.getElem_cons_zero]); go_simp; (try (rw [if_neg (by (try simp only [ByteArray.size_append]); omega)])); try (with_reducible rfl); done)))
            try simp only [Act.put, List.getElem_toArray, List.getElem_cons_succ, List.getElem_cons_zero, List.setIfInBounds_toArray, List.set_cons_zero, List.set_cons_succ]
            (refine wpAnyH_take (i := 1) (v := ?_) rfl (by kernel_rfl) (by kernel_rfl) (by kernel_rfl) (fun _ _ _ h => h) (Or.inl ⟨by rfl, ?_⟩) (by assumption) ?_; rotate_left 1; (focus (intro wz hz; (try dsimp only at hz); (try simp only [List.getElem_toArray, List.getElem_cons_succ, List.getElem_cons_zero]); go_simp; (try (rw [if_neg (by (try simp only [ByteArray.size_append]); omega)])); try (with_reducible rfl); done)))
            try simp only [Act.put, List.getElem_toArray, List.getElem_cons_succ, List.getElem_cons_zero, List.setIfInBounds_toArray, List.set_cons_zero, List.set_cons_succ]
            (refine wpAnyH_take (i := 3) (v := ?_) rfl (by kernel_rfl) (by kernel_rfl) (by kernel_rfl) (fun _ _ _ h => h) (Or.inl ⟨by rfl, ?_⟩) (by assumption) ?_; rotate_left 1; (focus (intro wz hz; (try dsimp only at hz); (try simp only [List.getElem_toArray, List.getElem_cons_succ, List.getElem_cons_zero]); go_simp; (try (rw [if_neg (by (try simp only [ByteArray.size_append]); omega)])); try (with_reducible rfl); done)))
            try simp only [Act.put, List.getElem_toArray, List.getElem_cons_succ, List.getElem_cons_zero, List.setIfInBounds_toArray, List.set_cons_zero, List.set_cons_succ]
            (refine wpAnyH_take (i := 6) (v := ?_) rfl (by kernel_rfl) (by kernel_rfl) (by kernel_rfl) (fun _ _ _ h => h) (Or.inl ⟨by rfl, ?_⟩) (by assumption) ?_; rotate_left 1; (focus (intro wz hz; (try dsimp only at hz); (try simp only [List.getElem_toArray, List.getElem_cons_succ, List.getElem_cons_zero]); go_simp; (try (rw [if_neg (by (try simp only [ByteArray.size_append]); omega)])); try (with_reducible rfl); done)))
            try simp only [Act.put, List.getElem_toArray, List.getElem_cons_succ, List.getElem_cons_zero, List.setIfInBounds_toArray, List.set_cons_zero, List.set_cons_succ]
            (refine wpAnyH_take (i := 7) (v := ?_) rfl (by kernel_rfl) (by kernel_rfl) (by kernel_rfl) (fun _ _ _ h => h) (Or.inl ⟨by rfl, ?_⟩) (by assumption) ?_; rotate_left 1; (focus (intro wz hz; (try dsimp only at hz); (try simp only [List.getElem_toArray, List.getElem_cons_succ, List.getElem_cons_zero]); go_simp; (try (rw [if_neg (by (try simp only [ByteArray.size_append]); omega)])); try (with_reducible rfl); done)))
            try simp only [Act.put, List.getElem_toArray, List.getElem_cons_succ, List.getElem_cons_zero, List.setIfInBounds_toArray, List.set_cons_zero, List.set_cons_succ]
            (refine wpAnyH_take (i := 11) (v := ?_) rfl (by kernel_rfl) (by kernel_rfl) (by kernel_rfl) (fun _ _ _ h => h) (Or.inl ⟨by rfl, ?_⟩) (by assumption) ?_; rotate_left 1; (focus (intro wz hz; (try dsimp only at hz); (try simp only [List.getElem_toArray, List.getElem_cons_succ, List.getElem_cons_zero]); go_simp; (try (rw [if_neg (by (try simp only [ByteArray.size_append]); omega)])); try (with_reducible rfl); done)))
            try simp only [Act.put, List.getElem_toArray, List.getElem_cons_succ, List.getElem_cons_zero, List.setIfInBounds_toArray, List.set_cons_zero, List.set_cons_succ]
            (refine wpAnyH_take (i := 13) (v := ?_) rfl (by kernel_rfl) (by kernel_rfl) (by kernel_rfl) (fun _ _ _ h => h) (Or.inl ⟨by rfl, ?_⟩) (by assumption) ?_; rotate_left 1; (focus (intro wz hz; (try dsimp only at hz); (try simp only [List.getElem_toArray, List.getElem_cons_succ, List.getElem_cons_zero]); go_simp; (try (rw [if_neg (by (try simp only [ByteArray.size_append]); omega)])); try (with_reducible rfl); done)))
            try simp only [Act.put, List.getElem_toArray, List.getElem_cons_succ, List.getElem_cons_zero, List.setIfInBounds_toArray, List.set_cons_zero, List.set_cons_succ]
            (refine wpAnyH_take (i := 2) (v := ?_) rfl (by kernel_rfl) (by kernel_rfl) (by kernel_rfl) (fun _ _ _ h => h) (Or.inl ⟨by rfl, ?_⟩) (by assumption) ?_; rotate_left 1; (focus (intro wz hz; (try dsimp only at hz); (try simp only [List.getElem_toArray, List.getElem_cons_succ, List.getElem_cons_zero]); go_simp; (try (rw [if_neg (by (try simp only [ByteArray.size_append]); omega)])); try (with_reducible rfl); done)))
            try simp only [Act.put, List.getElem_toArray, List.getElem_cons_succ, List.getElem_cons_zero, List.setIfInBounds_toArray, List.set_cons_zero, List.set_cons_succ]
            (refine wpAnyH_take (i := 8) (v := ?_) rfl (by kernel_rfl) (by kernel_rfl) (by kernel_rfl) (fun _ _ _ h => h) (Or.inl ⟨by rfl, ?_⟩) (by assumption) ?_; rotate_left 1; (focus (intro wz hz; (try dsimp only at hz); (try simp only [List.getElem_toArray, List.getElem_cons_succ, List.getElem_cons_zero]); go_simp; (try (rw [if_neg (by (try simp only [ByteArray.size_append]); omega)])); try (with_reducible rfl); done)))
            try simp only [Act.put, List.getElem_toArray, List.getElem_cons_succ, List.getElem_cons_zero, List.setIfInBounds_toArray, List.set_cons_zero, List.set_cons_succ]
            (refine wpAnyH_take (i := 12) (v := ?_) rfl (by kernel_rfl) (by kernel_rfl) (by kernel_rfl) (fun _ _ _ h => h) (Or.inl ⟨by rfl, ?_⟩) (by assumption) ?_; rotate_left 1; (focus (intro wz hz; (try dsimp only at hz); (try simp only [List.getElem_toArray, List.getElem_cons_succ, List.getElem_cons_zero]); go_simp; (try (rw [if_neg (by (try simp only [ByteArray.size_append]); omega)])); try (with_reducible rfl); done)))
            try simp only [Act.put, List.getElem_toArray, List.getElem_cons_succ, List.getElem_cons_zero, List.setIfInBounds_toArray, List.set_cons_zero, List.set_cons_succ]
            (refine wpAnyH_take (i := 4) (v := ?_) rfl (by kernel_rfl) (by kernel_rfl) (by kernel_rfl) (fun _ _ _ h => h) (Or.inl ⟨by rfl, ?_⟩) (by assumption) ?_; rotate_left 1; (focus (intro wz hz; (try dsimp only at hz); (try simp only [List.getElem_toArray, List.getElem_cons_succ, List.getElem_cons_zero]); go_simp; (try (rw [if_neg (by (try simp only [ByteArray.size_append]); omega)])); try (with_reducible rfl); done)))
            try simp only [Act.put, List.getElem_toArray, List.getElem_cons_succ, List.getElem_cons_zero, List.setIfInBounds_toArray, List.set_cons_zero, List.set_cons_succ]
            (refine wpAnyH_take (i := 14) (v := ?_) rfl (by kernel_rfl) (by kernel_rfl) (by kernel_rfl) (fun _ _ _ h => h) (Or.inl ⟨by rfl, ?_⟩) (by assumption) ?_; rotate_left 1; (focus (intro wz hz; (try dsimp only at hz); (try simp only [List.getElem_toArray, List.getElem_cons_succ, List.getElem_cons_zero]); go_simp; (try (rw [if_neg (by (try simp only [ByteArray.size_append]); omega)])); try (with_reducible rfl); done)))
            try simp only [Act.put, List.getElem_toArray, List.getElem_cons_succ, List.getElem_cons_zero, List.setIfInBounds_toArray, List.set_cons_zero, List.set_cons_succ]
            refine wpAnyH_ready (rs := [5, 9]) (by kernel_rfl) (by simp) ?_
            refine AllReadyH.cons rfl (fun K hK => ?_) (AllReadyH.cons rfl (fun K hK => ?_) AllReadyH.nil)
            · ((try simp only [List.getElem_toArray, List.getElem_cons_succ, List.getElem_cons_zero]); rw [if_pos (by rfl)]; refine wp_app_row lays_rdu duC_len duC_one (.tmp 70) (.tmp 74) rfl wr.heap.size [] (C.take k) (.slice none 0 0) (.slice (some ⟨g, 0, none⟩) k c1) (by simp [Act.eval, Act.put]) (OwnR.nil _ _ _ _ _) (by simp [Act.eval, Act.put]) (IPRE _ (by (repeat (first | (with_reducible exact Below.refl _ _) | ((with_reducible refine below_alloc ?_ ?_ _); · (first | omega | (simp; done) | (simp; omega))) | ((with_reducible refine below_setCell ?_ ?_ _); · (first | omega | (simp; done) | (simp; omega))) | (with_reducible refine Below.drew ?_) | (with_reducible refine below_drewN ?_ _) | ((with_reducible refine below_call (by assumption) ?_ ?_); · (first | omega | (simp; done) | (simp; omega))))))) (by first | (simp; done) | (simp; omega) | omega) (by first | (simp; done) | (simp; omega) | omega) ?_; intro v6 w6 ho6 _ hg6; have hb6 := Below.grown (Below.refl _ _) hg6 (Nat.le_refl _) (fun j hj => by simp [Value.ownBlock] at hj); have b6 : Below wr.heap.size wr w6 := Below.trans (show Below wr.heap.size wr _ by first | exact hT0 | exact below_alloc (show wr.heap.size ≤ wr.drew.heap.size from Nat.le_refl _) hT0 _) (hb6.mono (by simp)); have z6 := b6.size; obtain ⟨p6, c6, rfl⟩ := ho6.form; clear hHeld; refine hK.out _ _ (hout.out _ b6) (fun hHeld => ?_); clear hK K)
              try simp only [Act.put, List.getElem_toArray, List.getElem_cons_succ, List.getElem_cons_zero, List.setIfInBounds_toArray, List.set_cons_zero, List.set_cons_succ]
              (refine wpAnyH_ready (rs := [9]) (by kernel_rfl) (by simp) ?_; refine AllReadyH.cons rfl (fun K hK => ?_) AllReadyH.nil; (try simp only [List.getElem_toArray, List.getElem_cons_succ, List.getElem_cons_zero]); skip; go_simp; refine hK.out _ _ (hout.out _ (by first | exact below_alloc b6.size b6 _ | exact below_alloc (show wr.heap.size ≤ wr.drew.heap.size from Nat.le_refl _) hT0 _)) (fun hHeld => ?_); clear hK K)
              try simp only [Act.put, List.getElem_toArray, List.getElem_cons_succ, List.getElem_cons_zero, List.setIfInBounds_toArray, List.set_cons_zero, List.set_cons_succ]
              (refine wpAnyH_ready (rs := [10]) (by kernel_rfl) (by simp) ?_; refine AllReadyH.cons rfl (fun K hK => ?_) AllReadyH.nil; (try simp only [List.getElem_toArray, List.getElem_cons_succ, List.getElem_cons_zero]); rw [if_pos (by rfl)]; (first | refine wp_app_row lays_rdu duC_len duC_one (.tmp 75) (.tmp 79) rfl wr.heap.size ([] ++ C.take k) [((id, a) : Du)] (.slice p6 ([] ++ C.take k).length c6) (.slice (some ⟨w6.heap.size, 0, none⟩) 1 1) (by simp [Act.eval, Act.put, Nat.min_eq_left hk, hck]) (ho6.alloc _) (by simp [Act.eval, Act.put]) (isR_one w6 _ _ 1 rfl rfl) (by first | (simp; done) | (simp; omega) | omega) (by first | (simp; done) | (simp; omega) | omega) ?_ | refine wp_app_row lays_rdu duC_len duC_one (.tmp 75) (.tmp 79) rfl wr.heap.size ([] ++ C.take k) [((id, a) : Du)] (.slice p6 ([] ++ C.take k).length c6) (.slice (some ⟨wr.heap.size, 0, none⟩) 1 1) (by simp [Act.eval, Act.put, Nat.min_eq_left hk, hck]) ho6 (by simp [Act.eval, Act.put]) ((isR_one (z := 2) (cs := duC) wr.drew ((id, a) : Du) _ 1 rfl rfl).call hb6) (by first | (simp; done) | (simp; omega) | omega) (by first | (simp; done) | (simp; omega) | omega) ?_); intro v7 w7 ho7 hb7 _; obtain ⟨p7, c7, rfl⟩ := ho7.form; have b7 : Below wr.heap.size wr w7 := Below.trans (show Below wr.heap.size wr _ by first | exact b6 | exact below_alloc z6 b6 _) hb7; have z7 := b7.size; clear hHeld; refine hK.out _ _ (hout.out _ b7) (fun hHeld => ?_); clear hK K)
              try simp only [Act.put, List.getElem_toArray, List.getElem_cons_succ, List.getElem_cons_zero, List.setIfInBounds_toArray, List.set_cons_zero, List.set_cons_succ]
              (refine wpAnyH_ready (rs := [15]) (by kernel_rfl) (by simp) ?_; refine AllReadyH.cons rfl (fun K hK => ?_) AllReadyH.nil; (try simp only [List.getElem_toArray, List.getElem_cons_succ, List.getElem_cons_zero]); rw [if_pos (by rfl)]; refine wp_app_row lays_rdu duC_len duC_one (.tmp 80) (.tmp 84) rfl wr.heap.size ([] ++ C.take k ++ [((id, a) : Du)]) (C.drop k) (.slice p7 ([] ++ C.take k ++ [((id, a) : Du)]).length c7) (.slice (some ⟨g, k * 2, none⟩) (C.length - k) (c1 - k)) (by simp [Act.eval, Act.put, Nat.min_eq_left hk, hck]) ho7 (by simp [Act.eval, Act.put]) (ITAIL.out _ b7) (by first | (simp; done) | (simp; omega) | omega) (by first | (simp; done) | (simp; omega) | omega) ?_; intro v8 w8 ho8 hb8 _; obtain ⟨p8, c8, rfl⟩ := ho8.form; have b8 : Below wr.heap.size wr w8 := Below.trans b7 hb8; clear hHeld; refine hK.out _ _ (hout.out _ b8) (fun hHeld => ?_); clear hK K)
              try simp only [Act.put, List.getElem_toArray, List.getElem_cons_succ, List.getElem_cons_zero, List.setIfInBounds_toArray, List.set_cons_zero, List.set_cons_succ]
              refine wpAnyH_done (by kernel_rfl) ?_ _
              refine tail_go ?_
              clear hHeld
              have hHeld : True := trivial
              (refine wpAnyH_take (i := 16) (v := ?_) rfl (by kernel_rfl) (by kernel_rfl) (by kernel_rfl) (fun _ _ _ h => h) (Or.inl ⟨by rfl, ?_⟩) (by assumption) ?_; rotate_left 1; (focus (intro wz hz; (try dsimp only at hz); (try simp only [List.getElem_toArray, List.getElem_cons_succ, List.getElem_cons_zero]); go_simp; (try (rw [if_neg (by (try simp only [ByteArray.size_append]); omega)])); try (with_reducible rfl); done)))
              try simp only [Act.put, List.getElem_toArray, List.getElem_cons_succ, List.getElem_cons_zero, List.setIfInBounds_toArray, List.set_cons_zero, List.set_cons_succ]
              (refine wpAnyH_ready (rs := [17]) (by kernel_rfl) (by simp) ?_; refine AllReadyH.cons rfl (fun K hK => ?_) AllReadyH.nil; (try simp only [List.getElem_toArray, List.getElem_cons_succ, List.getElem_cons_zero]); (obtain ⟨o0, o1⟩ := hout.out _ b8); go_simp; refine hK.out _ _ (trivial) (fun hHeld => ?_); clear hK K)
              try simp only [Act.put, List.getElem_toArray, List.getElem_cons_succ, List.getElem_cons_zero, List.setIfInBounds_toArray, List.set_cons_zero, List.set_cons_succ]
              refine wpAnyH_done (by kernel_rfl) ?_ _
              (go_wp2_with fail; all_goals (go_meet; exact ⟨p8, c8, w8, ho8, b8, by first | rfl | (simp [Nat.min_eq_left hk, hck]; done) | (simp [Nat.min_eq_left hk, hck]; omega)⟩))
            · ((try simp only [List.getElem_toArray, List.getElem_cons_succ, List.getElem_cons_zero]); skip; go_simp; refine hK.out _ _ (hout.out _ (by first | exact below_alloc b6.size b6 _ | exact below_alloc (show wr.heap.size ≤ wr.drew.heap.size from Nat.le_refl _) hT0 _)) (fun hHeld => ?_); clear hK K)
              try simp only [Act.put, List.getElem_toArray, List.getElem_cons_succ, List.getElem_cons_zero, List.setIfInBounds_toArray, List.set_cons_zero, List.set_cons_succ]
              (refine wpAnyH_ready (rs := [5]) (by kernel_rfl) (by simp) ?_; refine AllReadyH.cons rfl (fun K hK => ?_) AllReadyH.nil; (try simp only [List.getElem_toArray, List.getElem_cons_succ, List.getElem_cons_zero]); rw [if_pos (by rfl)]; refine wp_app_row lays_rdu duC_len duC_one (.tmp 70) (.tmp 74) rfl wr.heap.size [] (C.take k) (.slice none 0 0) (.slice (some ⟨g, 0, none⟩) k c1) (by simp [Act.eval, Act.put]) (OwnR.nil _ _ _ _ _) (by simp [Act.eval, Act.put]) (IPRE _ (by (repeat (first | (with_reducible exact Below.refl _ _) | ((with_reducible refine below_alloc ?_ ?_ _); · (first | omega | (simp; done) | (simp; omega))) | ((with_reducible refine below_setCell ?_ ?_ _); · (first | omega | (simp; done) | (simp; omega))) | (with_reducible refine Below.drew ?_) | (with_reducible refine below_drewN ?_ _) | ((with_reducible refine below_call (by assumption) ?_ ?_); · (first | omega | (simp; done) | (simp; omega))))))) (by first | (simp; done) | (simp; omega) | omega) (by first | (simp; done) | (simp; omega) | omega) ?_; intro v6 w6 ho6 _ hg6; have hb6 := Below.grown (Below.refl _ _) hg6 (Nat.le_refl _) (fun j hj => by simp [Value.ownBlock] at hj); have b6 : Below wr.heap.size wr w6 := Below.trans (show Below wr.heap.size wr _ by first | exact hT0 | exact below_alloc (show wr.heap.size ≤ wr.drew.heap.size from Nat.le_refl _) hT0 _) (hb6.mono (by simp)); have z6 := b6.size; obtain ⟨p6, c6, rfl⟩ := ho6.form; clear hHeld; refine hK.out _ _ (hout.out _ b6) (fun hHeld => ?_); clear hK K)
              try simp only [Act.put, List.getElem_toArray, List.getElem_cons_succ, List.getElem_cons_zero, List.setIfInBounds_toArray, List.set_cons_zero, List.set_cons_succ]
              (refine wpAnyH_ready (rs := [10]) (by kernel_rfl) (by simp) ?_; refine AllReadyH.cons rfl (fun K hK => ?_) AllReadyH.nil; (try simp only [List.getElem_toArray, List.getElem_cons_succ, List.getElem_cons_zero]); rw [if_pos (by rfl)]; (first | refine wp_app_row lays_rdu duC_len duC_one (.tmp 75) (.tmp 79) rfl wr.heap.size ([] ++ C.take k) [((id, a) : Du)] (.slice p6 ([] ++ C.take k).length c6) (.slice (some ⟨w6.heap.size, 0, none⟩) 1 1) (by simp [Act.eval, Act.put, Nat.min_eq_left hk, hck]) (ho6.alloc _) (by simp [Act.eval, Act.put]) (isR_one w6 _ _ 1 rfl rfl) (by first | (simp; done) | (simp; omega) | omega) (by first | (simp; done) | (simp; omega) | omega) ?_ | refine wp_app_row lays_rdu duC_len duC_one (.tmp 75) (.tmp 79) rfl wr.heap.size ([] ++ C.take k) [((id, a) : Du)] (.slice p6 ([] ++ C.take k).length c6) (.slice (some ⟨wr.heap.size, 0, none⟩) 1 1) (by simp [Act.eval, Act.put, Nat.min_eq_left hk, hck]) ho6 (by simp [Act.eval, Act.put]) ((isR_one (z := 2) (cs := duC) wr.drew ((id, a) : Du) _ 1 rfl rfl).call hb6) (by first | (simp; done) | (simp; omega) | omega) (by first | (simp; done) | (simp; omega) | omega) ?_); intro v7 w7 ho7 hb7 _; obtain ⟨p7, c7, rfl⟩ := ho7.form; have b7 : Below wr.heap.size wr w7 := Below.trans (show Below wr.heap.size wr _ by first | exact b6 | exact below_alloc z6 b6 _) hb7; have z7 := b7.size; clear hHeld; refine hK.out _ _ (hout.out _ b7) (fun hHeld => ?_); clear hK K)
              try simp only [Act.put, List.getElem_toArray, List.getElem_cons_succ, List.getElem_cons_zero, List.setIfInBounds_toArray, List.set_cons_zero, List.set_cons_succ]
              (refine wpAnyH_ready (rs := [15]) (by kernel_rfl) (by simp) ?_; refine AllReadyH.cons rfl (fun K hK => ?_) AllReadyH.nil; (try simp only [List.getElem_toArray, List.getElem_cons_succ, List.getElem_cons_zero]); rw [if_pos (by rfl)]; refine wp_app_row lays_rdu duC_len duC_one (.tmp 80) (.tmp 84) rfl wr.heap.size ([] ++ C.take k ++ [((id, a) : Du)]) (C.drop k) (.slice p7 ([] ++ C.take k ++ [((id, a) : Du)]).length c7) (.slice (some ⟨g, k * 2, none⟩) (C.length - k) (c1 - k)) (by simp [Act.eval, Act.put, Nat.min_eq_left hk, hck]) ho7 (by simp [Act.eval, Act.put]) (ITAIL.out _ b7) (by first | (simp; done) | (simp; omega) | omega) (by first | (simp; done) | (simp; omega) | omega) ?_; intro v8 w8 ho8 hb8 _; obtain ⟨p8, c8, rfl⟩ := ho8.form; have b8 : Below wr.heap.size wr w8 := Below.trans b7 hb8; clear hHeld; refine hK.out _ _ (hout.out _ b8) (fun hHeld => ?_); clear hK K)
              try simp only [Act.put, List.getElem_toArray, List.getElem_cons_succ, List.getElem_cons_zero, List.setIfInBounds_toArray, List.set_cons_zero, List.set_cons_succ]
              refine wpAnyH_done (by kernel_rfl) ?_ _
              refine tail_go ?_
              clear hHeld
              have hHeld : True := trivial
              (refine wpAnyH_take (i := 16) (v := ?_) rfl (by kernel_rfl) (by kernel_rfl) (by kernel_rfl) (fun _ _ _ h => h) (Or.inl ⟨by rfl, ?_⟩) (by assumption) ?_; rotate_left 1; (focus (intro wz hz; (try dsimp only at hz); (try simp only [List.getElem_toArray, List.getElem_cons_succ, List.getElem_cons_zero]); go_simp; (try (rw [if_neg (by (try simp only [ByteArray.size_append]); omega)])); try (with_reducible rfl); done)))
              try simp only [Act.put, List.getElem_toArray, List.getElem_cons_succ, List.getElem_cons_zero, List.setIfInBounds_toArray, List.set_cons_zero, List.set_cons_succ]
              (refine wpAnyH_ready (rs := [17]) (by kernel_rfl) (by simp) ?_; refine AllReadyH.cons rfl (fun K hK => ?_) AllReadyH.nil; (try simp only [List.getElem_toArray, List.getElem_cons_succ, List.getElem_cons_zero]); (obtain ⟨o0, o1⟩ := hout.out _ b8); go_simp; refine hK.out _ _ (trivial) (fun hHeld => ?_); clear hK K)
              try simp only [Act.put, List.getElem_toArray, List.getElem_cons_succ, List.getElem_cons_zero, List.setIfInBounds_toArray, List.set_cons_zero, List.set_cons_succ]
              refine wpAnyH_done (by kernel_rfl) ?_ _
              (go_wp2_with fail; all_goals (go_meet; exact ⟨p8, c8, w8, ho8, b8, by first | rfl | (simp [Nat.min_eq_left hk, hck]; done) | (simp [Nat.min_eq_left hk, hck]; omega)⟩))
          case rest =>
            obtain ⟨p5, c5, w7, ho, hbx, rfl⟩ := hcut
            obtain ⟨⟨⟨x0, x1, x2⟩, f0, f1, f2⟩, ⟨z0, z1, z2⟩, j0, j1, j2⟩ := (HXZ.out).imp (fun h => h.call hbx) (fun h => h.call hbx)
            have HO7 := Lib.hid ho
            have hzx := hbx.size
            have Bx := hB.trans (hbx.mono hB.size)
            have hne : w.heap.size ≠ w.heap.size + 1 := by omega
            clear ho hout IPRE hT0
            go_wp2
            refine bodyPost_ret (v := .tuple #[.agg #[.int .i64 N, .int .i64 now, .slice p5 (([] ++ C.take k ++ [((id, a) : Du)]) ++ C.drop k).length c5], .int .i64 0]) (by simp [results, Try.results18, go_sem, z0, z1, z2, Nat.min_eq_left hk, hck]) rfl ⟨_, rfl, ?_, ?_⟩
            · rw [HQ.out]
              exact ((((HO7.out.set (p := ⟨w.heap.size, 2, none⟩) (by show w.heap.size < _; omega) _).set (p := ⟨w.heap.size + 1, 0, none⟩) (by show w.heap.size + 1 < _; omega) _).set (p := ⟨w.heap.size + 1, 1, none⟩) (by show w.heap.size + 1 < _; omega) _).set (p := ⟨w.heap.size + 1, 2, none⟩) (by show w.heap.size + 1 < _; omega) _).mono (by omega)
            · (repeat (first | (with_reducible exact Below.refl _ _) | ((with_reducible refine below_alloc ?_ ?_ _); · (first | omega | (simp; done) | (simp; omega))) | ((with_reducible refine below_setCell ?_ ?_ _); · (first | omega | (simp; done) | (simp; omega))) | (with_reducible refine Below.drew ?_) | (with_reducible refine below_drewN ?_ _) | ((with_reducible refine below_call (by assumption) ?_ ?_); · (first | omega | (simp; done) | (simp; omega)))))
end Go.Proofs.Ytcanaadcjipfjaa
