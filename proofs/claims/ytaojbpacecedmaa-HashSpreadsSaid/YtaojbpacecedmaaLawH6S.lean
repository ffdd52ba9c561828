/- HashSpreads: how many of any texts belong where is told as the document says: the statement holds for every input. No condition. -/
import Derived.Test.YtaojbpacecedmaaLawOpenS6
import Derived.Test.YtaojbpacecedmaaH6W
namespace Go.Proofs.Ytaojbpacecedmaa
open Go.RowKit Go.ChangeShapes Go.WideShapes Go.ChangeAt
set_option linter.unusedVariables false
set_option linter.unusedSimpArgs false

theorem spreadP_len (L : List ByteArray) (m : Int) : (spreadP L m).length ≤ 256 := by
  unfold spreadP; split
  · rw [spF_len]; omega
  · simp
set_option maxRecDepth 100000 in
set_option maxHeartbeats 4000000 in
theorem spreads_walk (v : Value) (L : List ByteArray) (m : Int) (w : World) (hv : IsS w v L) (hl : L.length ≤ maxLen) (hs : ∀ s ∈ L, s.size ≤ maxLen) :
    Calls Try.prog 5 #[v, .int .i64 m] w fun e w' => e = .returned (.bool true) ∧ Below w.heap.size w w' := by
  have hv' := hv
  obtain ⟨p, cap, rfl, hp⟩ := hv
  by_cases h : (60 : Int) < L.length
  · unfold maxLen at hl
    clear hp hv' hs
    go_enter Try.func5, Try.ntmps5
    go_wp2_with fail
    refine (awake_any _).mono ?_; rintro e w3 ⟨rfl, hb⟩
    go_wp2_with fail
    go_ret
    exact ⟨rfl, hb⟩
  · have hl' : (L.length : Int) ≤ 60 := by omega
    have Hp := Lib.hid hp
    have Hs := Lib.hid hs
    have Hv := Lib.hid hv'
    clear hp hs hv' h hl
    go_enter Try.func5, Try.ntmps5
    go_wp2
    go_loop [5] (fun i => ∃ k : Nat, i = .int .i64 k ∧ k ≤ L.length) (fun i => L.length - (intOf i).toNat)
    case atStart => exact ⟨0, rfl, by omega⟩
    case round =>
      obtain ⟨k, rfl, hk⟩ := hrel
      by_cases hlt : k < L.length
      · have hlt' : (k : Int) < L.length := by omega
        obtain ⟨b, off, rfl, d⟩ := Hp.out k hlt
        have hss := Hs.out L[k] (List.getElem_mem _)
        obtain ⟨s, hse⟩ : ∃ s, L[k] = s := ⟨_, rfl⟩
        rw [hse] at d hss
        unfold maxLen at hss
        clear hse
        by_cases hbig : (100 : Int) < s.size
        · go_wp2_with fail
          refine (awake_any _).mono ?_; rintro e w3 ⟨rfl, hb⟩
          go_wp2_with fail
          go_ret
          exact ⟨rfl, hb⟩
        · have hbig' : (s.size : Int) ≤ 100 := by omega
          go_wp2
          go_round
          case rel => exact ⟨k + 1, by go_num, by omega⟩
          case measure => simp [intOf]; omega
      · obtain rfl : k = L.length := by omega
        have c1 := fun W hv => spread_any (.slice p L.length cap) L m W hv (by omega) Hs.out
        have c2 := fun W hv => spreadD_any (.slice p L.length cap) L m W hv (by omega) Hs.out
        have hc := spreadP_len L m
        obtain ⟨C, hC⟩ : ∃ C, spreadP L m = C := ⟨_, rfl⟩
        rw [hC] at c1 c2 hc
        clear hC
        go_wp2_with fail
        refine (c1 _ Hv.out).mono ?_; rintro e w1 ⟨v1, rfl, o1, hb1⟩
        have hz1 := hb1.size
        have O1 := Lib.hid o1
        obtain ⟨a1, p1, hve⟩ := row_shape (show w1.ownsRow _ _ _ _ _ _ from o1)
        subst hve
        clear o1
        go_wp2_with fail
        refine (c2 _ (Hv.out.call hb1)).mono ?_; rintro e w2 ⟨v2, rfl, o2, hb2⟩
        have hz2 := hb2.size
        have O2 := Lib.hid o2
        obtain ⟨a2, p2, hve⟩ := row_shape (show w2.ownsRow _ _ _ _ _ _ from o2)
        subst hve
        clear o2
        go_wp2_with fail
        refine (sameInts_any _ _ _ _ _ (O1.out.reads.call hb2) O2.out.reads (by omega)).mono ?_; rintro e w3 ⟨rfl, hb3⟩
        rw [sameIB_self]
        have hz3 := hb3.size
        go_wp2_with fail
        refine (awake_any _).mono ?_; rintro e w4 ⟨rfl, hb4⟩
        have hz4 := hb4.size
        go_wp2_with fail
        go_ret
        exact ⟨rfl, by (repeat (first | (with_reducible exact Below.refl _ _) | ((with_reducible refine below_alloc ?_ ?_ _); · (first | omega | (simp; done) | (simp; omega))) | ((with_reducible refine below_setCell ?_ ?_ _); · (first | omega | (simp; done) | (simp; omega))) | (with_reducible refine Below.drew ?_) | (with_reducible refine below_drewN ?_ _) | ((with_reducible refine below_call (by assumption) ?_ ?_); · (first | omega | (simp; done) | (simp; omega)))))⟩

set_option maxRecDepth 100000 in
theorem spreads_lifted (os : Os) (started : os.Started) (H : Type) (enc : TypeId × Value → H) :
    ReturnsInHanded {} Try.checked os 5 .any (Rows.hashSpreadsSpec.pre6 enc Try.prog Try.f5 Rows.hashSpreadsRow.domain false) (Rows.hashSpreadsSpec.post enc Try.prog Try.f5 false true false false) := by
  refine returnsInHanded_of_change (C := Try.checked) own started (by kernel_rfl) Try.func5
    (ChangeSpec.witness6 (enc := enc) (C := Try.checked) false ⟨#[], #[.slice none 0 0, .int .i64 0], []⟩ 8 (by kernel_rfl) (by kernel_rfl) (by kernel_rfl) (by kernel_rfl)) ?_
  intro W base args ds gs before hval0 hW hcnd _
  have hval : ∀ (j : Nat) t v, Try.f5.params[j]? = some t → args[j]? = some v → Value.okWide Try.prog W .any base t v := hval0
  have hW' := hW
  obtain ⟨p, q, hA0, hV, rfl, hfz, hnd⟩ := hW
  have hA : DataW.TrodAll enc Try.prog W 0 (fun _ => true) true Try.f5.params.toList args.toList ds p := hA0
  rw [Try.params5] at hA hval
  obtain ⟨v0, vs0, d0, ds0, p0, q0, hargs, rfl, rfl, h0, r0⟩ := trodAll_cons hA
  obtain ⟨v1, vs1, d1, ds1, p1, q1, rfl, rfl, rfl, h1, r1⟩ := trodAll_cons r0
  obtain ⟨rfl, rfl, rfl⟩ := trodAll_nil r1
  obtain rfl : args = #[v0, v1] := by cases args; simp_all
  obtain ⟨rfl, rfl⟩ := trodVars_none hV
  obtain ⟨l, hl, hln, hls⟩ := open_texts (hval 0 35 v0 rfl rfl) h0
  obtain ⟨m, rfl, rfl, rfl, wm⟩ := open_int Try.underlying3 (hval 1 3 v1 rfl rfl) h1
  refine (spreads_walk v0 l m W hl hln hls).mono fun e W' ⟨he, hb⟩ => ?_
  subst he
  exact ⟨_, rfl, law_post rfl rfl Try.underlying4 (by kernel_rfl) rfl hW' hb⟩
theorem spreads_holds : Rows.HashSpreadsSaid :=
  OpenClaim.holds_of_wide 5 Try.f5 rfl rfl rfl rfl rfl rfl rfl ⟨rfl, rfl, rfl, rfl, rfl⟩ rfl rfl rfl rfl rfl (by kernel_rfl) Try.func5 (by kernel_rfl)
    (of_decide_eq_true (by kernel_rfl)) (by unfold Func.isWrapper; first | (rw [if_pos (by decide +kernel)]; kernel_rfl) | (rw [if_neg (by decide +kernel)]; exact ⟨rfl, rfl⟩))
    (fun os started H enc _ => spreads_lifted os started H enc)
end Go.Proofs.Ytaojbpacecedmaa
