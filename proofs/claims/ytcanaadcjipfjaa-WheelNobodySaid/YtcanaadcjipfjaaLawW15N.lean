/- WheelNobody: one that is not there has nothing due: the statement holds for every input. No condition. -/
import Derived.Test.YtcanaadcjipfjaaLawKit
import Derived.Test.YtcanaadcjipfjaaLawOpenI
import Derived.Test.YtcanaadcjipfjaaW15W
namespace Go.Proofs.Ytcanaadcjipfjaa
open Go.RowKit Go.ChangeShapes Go.WideShapes Go.ChangeAt
set_option linter.unusedVariables false
set_option linter.unusedSimpArgs false

set_option maxRecDepth 100000 in
set_option maxHeartbeats 4000000 in
theorem wnobody_walk (id a : Int) (w : World) : Calls Try.prog 4 #[.int .i64 id, .int .i64 a] w fun e w' => e = .returned (.bool true) ∧ Below w.heap.size w w' := by
  go_enter Try.func4, Try.ntmps4
  go_wp2_with fail
  refine (wnext_nil _).mono ?_; rintro e w1 ⟨rfl, hb1⟩
  have B1 := Lib.hid hb1
  clear hb1
  go_wp2_with fail
  refine (wwhen_nil id _).mono ?_; rintro e w2 ⟨rfl, hb2⟩
  have B2 := Lib.hid (below_call hb2 B1.out.size B1.out)
  clear hb2 B1
  go_wp2_with fail
  refine (wset_nil id a _).mono ?_; rintro e w3 ⟨rfl, hb3⟩
  have B3 := Lib.hid (below_call hb3 B2.out.size B2.out)
  clear hb3 B2
  go_wp2_with fail
  refine (wstop_nil id _).mono ?_; rintro e w4 ⟨rfl, hb4⟩
  have B4 := Lib.hid (below_call hb4 B3.out.size B3.out)
  clear hb4 B3
  go_wp2_with fail
  refine (wgo_nil a _).mono ?_; rintro e w5 ⟨p5, c5, rfl, hb5⟩
  have B5 := Lib.hid (below_call hb5 B4.out.size B4.out)
  clear hb5 B4
  go_wp2_with fail
  refine (wlen_nil _).mono ?_; rintro e w6 ⟨rfl, hb6⟩
  have B6 := Lib.hid (below_call hb6 B5.out.size B5.out)
  clear hb6 B5
  go_wp2_with fail
  refine (wnow_nil _).mono ?_; rintro e w7 ⟨rfl, hb7⟩
  have B7 := Lib.hid (below_call hb7 B6.out.size B6.out)
  clear hb7 B6
  go_wp2_with fail
  refine (wall_nil _).mono ?_; rintro e w8 ⟨p8, c8, rfl, hb8⟩
  have B8 := Lib.hid (below_call hb8 B7.out.size B7.out)
  clear hb8 B7
  go_wp2_with fail
  refine (wload_nil _).mono ?_; rintro e w9 ⟨p9, c9, rfl, hb9⟩
  have B9 := Lib.hid (below_call hb9 B8.out.size B8.out)
  clear hb9 B8
  go_wp2_with fail
  refine (awake_any _).mono ?_; rintro e w10 ⟨rfl, hb10⟩
  have B10 := Lib.hid (below_call hb10 B9.out.size B9.out)
  clear hb10 B9
  go_wp2_with fail
  go_ret
  exact ⟨rfl, B10.out⟩

set_option maxRecDepth 100000 in
theorem wnobody_lifted (os : Os) (started : os.Started) (H : Type) (enc : TypeId × Value → H) :
    ReturnsInHanded {} Try.checked os 4 .any (Rows.wheelNobodySpec.pre6 enc Try.prog Try.f4 Rows.wheelNobodyRow.domain false) (Rows.wheelNobodySpec.post enc Try.prog Try.f4 false true false false) := by
  refine returnsInHanded_of_change (C := Try.checked) own started (by kernel_rfl) Try.func4
    (ChangeSpec.witness6 (enc := enc) (C := Try.checked) false ⟨#[], #[.int .i64 0, .int .i64 0], []⟩ 8 (by kernel_rfl) (by kernel_rfl) (by kernel_rfl) (by kernel_rfl)) ?_
  intro W base args ds gs before hval0 hW hcnd _
  have hval : ∀ (j : Nat) t v, Try.f4.params[j]? = some t → args[j]? = some v → Value.okWide Try.prog W .any base t v := hval0
  have hW' := hW
  obtain ⟨p, q, hA0, hV, rfl, hfz, hnd⟩ := hW
  have hA : DataW.TrodAll enc Try.prog W 0 (fun _ => true) true Try.f4.params.toList args.toList ds p := hA0
  rw [Try.params4] at hA hval
  obtain ⟨v0, vs0, d0, ds0, p0, q0, hargs, rfl, rfl, h0, r0⟩ := trodAll_cons hA
  obtain ⟨v1, vs1, d1, ds1, p1, q1, rfl, rfl, rfl, h1, r1⟩ := trodAll_cons r0
  obtain ⟨rfl, rfl, rfl⟩ := trodAll_nil r1
  obtain rfl : args = #[v0, v1] := by cases args; simp_all
  obtain ⟨rfl, rfl⟩ := trodVars_none hV
  obtain ⟨a, rfl, rfl, rfl, hba⟩ := open_int Try.underlying3 (hval 0 3 v0 rfl rfl) h0
  obtain ⟨b, rfl, rfl, rfl, hbb⟩ := open_int Try.underlying3 (hval 1 3 v1 rfl rfl) h1
  refine (wnobody_walk a b W).mono fun e W' ⟨he, hb⟩ => ?_
  subst he
  exact ⟨_, rfl, law_post rfl rfl Try.underlying4 (by kernel_rfl) rfl hW' hb⟩
theorem wnobody_holds : Rows.WheelNobodySaid :=
  OpenClaim.holds_of_wide 4 Try.f4 rfl rfl rfl rfl rfl rfl rfl ⟨rfl, rfl, rfl, rfl, rfl⟩ rfl rfl rfl rfl rfl (by kernel_rfl) Try.func4 (by kernel_rfl)
    (of_decide_eq_true (by kernel_rfl)) (by unfold Func.isWrapper; first | (rw [if_pos (by decide +kernel)]; kernel_rfl) | (rw [if_neg (by decide +kernel)]; exact ⟨rfl, rfl⟩))
    (fun os started H enc _ => wnobody_lifted os started H enc)
end Go.Proofs.Ytcanaadcjipfjaa
