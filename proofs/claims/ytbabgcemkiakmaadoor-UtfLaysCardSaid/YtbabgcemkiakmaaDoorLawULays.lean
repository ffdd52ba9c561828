/- UtfLays: any number, and any numbers, are laid as the document says, or it is told why not: the statement holds for every input. No condition, but that unicode/utf8's two tables hold what their text lays, which the card ties. -/
import Derived.Test.YtbabgcemkiakmaaDoorLawLaid
import Derived.Test.YtbabgcemkiakmaaDoorLawOpenI
import Derived.Test.YtbabgcemkiakmaaDoorUK
namespace Go.Proofs.YtbabgcemkiakmaaDoor
open Go.RowKit Go.ChangeShapes Go.WideShapes Go.ChangeAt
set_option linter.unusedVariables false
set_option linter.unusedSimpArgs false

theorem putE_bd (c : Int) : 0 ≤ putE c ∧ putE c ≤ 8 := by unfold putE; split <;> omega
theorem ofE_bd (l : List Int) : 0 ≤ ofE l ∧ ofE l ≤ 8 := by unfold ofE; split <;> omega
set_option maxRecDepth 100000 in
set_option maxHeartbeats 8000000 in
theorem lays_walk (c : Int) (v : Value) (l : List Int) (w : World) (hT : Tabs w) (hv : IsI w v l) (hl : l.length ≤ maxLen) :
    Calls Tryd.prog 4 #[.int .i64 c, v] w fun e w' => e = .returned (.bool true) ∧ Below w.heap.size w w' := by
  unfold maxLen at hl
  obtain ⟨p, cap, rfl, hp⟩ := id hv
  by_cases hbig : (100 : Int) < l.length
  · clear hp hv
    go_enter Tryd.func4, Tryd.ntmps4
    go_wp2_with (go_at_call 7; refine (awake_any _ hT).mono ?_; rintro e w1 ⟨rfl, hb1⟩)
    go_ret
    exact ⟨rfl, hb1⟩
  · have hsm : (l.length : Int) ≤ 100 := by omega
    have Hv := Lib.hid hv
    have c1 := fun W => put_any c W
    have c2 := fun W => refput_any c W
    have c3 := fun W hv => of_any (.slice p l.length cap) l W hv (by omega)
    have c4 := fun W hv => refof_any (.slice p l.length cap) l W hv (by omega)
    obtain ⟨g1, g2⟩ := putE_bd c
    obtain ⟨g3, g4⟩ := ofE_bd l
    generalize putE c = E1 at *
    generalize ofE l = E2 at *
    generalize (⟨(putL c).toArray⟩ : ByteArray) = X at *
    generalize (⟨(ofL l).toArray⟩ : ByteArray) = Y at *
    clear hp hv hbig
    go_enter Tryd.func4, Tryd.ntmps4
    go_wp2_with fail
    refine (c1 _).mono ?_; rintro e w1 ⟨rfl, rfl⟩
    go_wp2_with fail
    refine (c2 _).mono ?_; rintro e w2 ⟨rfl, hb2⟩
    have T2 := hT.call hb2
    have hz2 := hb2.size
    go_wp2_with fail
    refine (c3 _ (Hv.out.call hb2)).mono ?_; rintro e w3 ⟨rfl, hb3⟩
    have T3 := T2.call hb3
    have hz3 := hb3.size
    go_wp2_with fail
    refine (c4 _ ((Hv.out.call hb2).call hb3)).mono ?_; rintro e w4 ⟨rfl, hb4⟩
    have T4 := T3.call hb4
    have hz4 := hb4.size
    go_wp2_with fail
    refine (awake_any _ T4).mono ?_; rintro e w5 ⟨rfl, hb5⟩
    have hz5 := hb5.size
    go_wp2_with fail
    go_ret
    exact ⟨rfl, by (repeat (first | (with_reducible exact Below.refl _ _) | ((with_reducible refine below_alloc ?_ ?_ _); · (first | omega | (simp; done) | (simp; omega))) | ((with_reducible refine below_setCell ?_ ?_ _); · (first | omega | (simp; done) | (simp; omega))) | (with_reducible refine Below.drew ?_) | (with_reducible refine below_drewN ?_ _) | ((with_reducible refine below_call (by assumption) ?_ ?_); · (first | omega | (simp; done) | (simp; omega)))))⟩

set_option maxRecDepth 100000 in
theorem lays_lifted (os : Os) (started : os.Started) (H : Type) (enc : TypeId × Value → H) :
    ReturnsInHanded {} Tryd.checked os 4 .any (fun w args => (Rows.utfLaysSpec.pre enc Tryd.prog Tryd.f4 Rows.utfLaysRow.domain false w args ∧ laidMetH Tryd.prog laidU8 w) ∧ sizedMet enc Tryd.prog Tryd.f4 (OpenSpec.ofChange Rows.utfLaysSpec) false w args)
      (Rows.utfLaysSpec.post enc Tryd.prog Tryd.f4 false true false false) := by
  refine returnsInHanded_of_change_and (C := Tryd.checked) (X := fun w _ => laidMetH Tryd.prog laidU8 w) (fun _ _ _ hh h => h.of_heap hh) own started (by kernel_rfl) Tryd.func4
    (ChangeSpec.witness_shaped (enc := enc) (C := Tryd.checked) (os := os) (X := fun w _ => laidMetH Tryd.prog laidU8 w) false (World.laidAll Tryd.prog os laidU8) #[.int .i64 0, .slice none 0 0] 8 (World.laidAll_os _ _ _)
      (World.shaped_of_ZipB (by kernel_rfl) (by kernel_rfl)) (by kernel_rfl) (by kernel_rfl) (by kernel_rfl)
      (by rw [MakeChecks.laidMetH_plain _ _ _ (by kernel_rfl)]; exact laidMet_laidAll _ (by kernel_rfl) (by kernel_rfl))) ?_
  intro W base args ds gs before hval0 hW _ _ hL _
  have hval : ∀ (j : Nat) t v, Tryd.f4.params[j]? = some t → args[j]? = some v → Value.okWide Tryd.prog W .any base t v := hval0
  have hW' := hW
  obtain ⟨p, q, hA0, hV, rfl, hfz, hnd⟩ := hW
  have hA : DataW.TrodAll enc Tryd.prog W 0 (fun _ => true) true Tryd.f4.params.toList args.toList ds p := hA0
  rw [Tryd.params4] at hA hval
  obtain ⟨v0, vs0, d0, ds0, p0, q0, hargs, rfl, rfl, h0, r0⟩ := trodAll_cons hA
  obtain ⟨v1, vs1, d1, ds1, p1, q1, rfl, rfl, rfl, h1, r1⟩ := trodAll_cons r0
  obtain ⟨rfl, rfl, rfl⟩ := trodAll_nil r1
  obtain rfl : args = #[v0, v1] := by cases args; simp_all
  obtain ⟨rfl, rfl⟩ := trodVars_none hV
  obtain ⟨c, rfl, rfl, rfl, wc⟩ := open_int Tryd.underlying3 (hval 0 3 v0 rfl rfl) h0
  obtain ⟨l, hl, hln, hls⟩ := open_nums_k Tryd.underlying25 Tryd.underlying3 (by kernel_rfl) (hval 1 25 v1 rfl rfl) h1
  refine (lays_walk c v1 l W (tabs_of_laid hL) hl hln).mono fun e W' ⟨he, hb⟩ => ?_
  subst he
  exact ⟨_, rfl, law_post rfl rfl Tryd.underlying4 (by kernel_rfl) rfl hW' hb⟩
theorem lays_holds : Rows.UtfLaysSaid :=
  OpenClaim.holds_of_wide 4 Tryd.f4 rfl rfl rfl rfl rfl rfl rfl ⟨rfl, rfl, rfl, rfl, rfl⟩ rfl rfl rfl rfl rfl (by kernel_rfl) Tryd.func4 (by kernel_rfl)
    (of_decide_eq_true (by kernel_rfl)) (by unfold Func.isWrapper; first | (rw [if_pos (by decide +kernel)]; kernel_rfl) | (rw [if_neg (by decide +kernel)]; exact ⟨rfl, rfl⟩))
    (fun os started H enc _ => lays_lifted os started H enc)
theorem lays_card : Rows.UtfLaysCardSaid :=
  Claim7.holds_tied_plain_at .later [] [.data, .pinned] true Rows.utfLaysCard.stood.harness false lays_holds (fun _ h => by cases h) (by kernel_rfl) (fun _ h => by cases h) utfLays_row_tie rfl ⟨rfl, rfl⟩ (by kernel_rfl) rfl
    (fun f fn hf hfn => by
      obtain rfl : f = 4 := Option.some.inj ((show Tryd.prog.funcNamed "callboy/callboylaw02.UtfLays" = some 4 by kernel_rfl).symm.trans hf) |>.symm
      obtain rfl : fn = Tryd.f4 := (Option.some.inj (Tryd.func4.symm.trans hfn)).symm
      exact ⟨by kernel_rfl, fun j t ht => by
        rw [Tryd.params4] at ht
        have hm : t ∈ [3, 25] := by simpa using Array.mem_of_getElem? ht
        have hall : ([3, 25].all fun u => !Tryd.prog.wantsStandIn u) = true := by kernel_rfl
        exact (show Tryd.prog.wantsStandIn t = false by simpa using List.all_eq_true.1 hall t hm)⟩)
    (by kernel_rfl)
end Go.Proofs.YtbabgcemkiakmaaDoor
