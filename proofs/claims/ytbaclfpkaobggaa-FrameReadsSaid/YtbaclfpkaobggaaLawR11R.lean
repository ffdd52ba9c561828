/- FrameReads: any bytes' first frame, all of them, and how many there are, are told as the document says: the statement holds for every input. No condition. -/
import Derived.Test.YtbaclfpkaobggaaR11W
import Derived.Test.YtbaclfpkaobggaaLawKit
import Derived.Test.YtbaclfpkaobggaaLawOpen
namespace Go.Proofs.Ytbaclfpkaobggaa
open Go.RowKit Go.ChangeShapes Go.WideShapes Go.ChangeAt
set_option linter.unusedVariables false
set_option linter.unusedSimpArgs false

theorem sameB_refl (l : List ByteArray) : sameB l l = true := decide_eq_true rfl
set_option maxRecDepth 100000 in
set_option maxHeartbeats 8000000 in
theorem freads_walk (b : ByteArray) (w : World) : Calls Try.prog 3 #[.string b] w fun e w' => e = .returned (.bool true) ∧ Below w.heap.size w w' := by
  have aw := Lib.hid (fun W => awake_any W)
  by_cases hb : b.size ≤ 400
  case neg =>
    have hb' : (400 : Int) < b.size := by omega
    clear hb
    go_enter Try.func3, Try.ntmps3
    go_wp2_with fail
    refine (aw.out _).mono ?_; rintro e w1 ⟨rfl, hb1⟩
    go_wp2
    go_ret
    exact ⟨rfl, hb1⟩
  have hb' : ¬ (400 : Int) < b.size := by omega
  have s1 : b.size ≤ 1000000 := by omega
  have q1 := Lib.hid (fun W => fget_any b W s1)
  have q2 := Lib.hid (fun W => rfget_any b W s1)
  have q3 := Lib.hid (fun W => fall_any b W s1)
  have q4 := Lib.hid (fun W => rfall_any b W s1)
  have q5 := Lib.hid (fun W => fcount_any b W s1)
  have q6 := Lib.hid (fun W => rfcount_any b W s1)
  have hll : (alL b.data.toList).length ≤ 9223372036854775807 := by
    have h := (pr_all _ b.data.toList (Nat.le_refl _)).1
    have hz := list_sz b
    have h3 : (pr b.data.toList).1.length ≤ b.data.toList.length := by
      have h4 : ∀ l : List ByteArray, l.length ≤ (l.flatMap frmB).length := fun l => by
        induction l with
        | nil => simp
        | cons s l ih =>
          rw [List.flatMap_cons, List.length_append, List.length_cons, frmB_len]
          omega
      have h5 := congrArg List.length h
      rw [List.length_append] at h5
      have := h4 (pr b.data.toList).1
      omega
    unfold alL
    split
    · omega
    · simp
  have HL := Lib.hid hll
  simp only [getV] at q1 q2
  generalize gtS b.data.toList = gs at q1 q2
  generalize (gtN b.data.toList : Int) = gn at q1 q2
  generalize gtE b.data.toList = ge at q1 q2
  generalize alL b.data.toList = L at q3 q4 HL
  generalize alE b.data.toList = E at q3 q4
  generalize (cnt b.data.toList : Int) = c at q5 q6
  have e1 : (gs.toList == gs.toList) = true := by simp
  have e2 : (gn == gn) = true := by simp
  have e3 : (ge == ge) = true := by simp
  have e4 : (E == E) = true := by simp
  have e5 : (c == c) = true := by simp
  clear hb s1 hll
  go_enter Try.func3, Try.ntmps3
  go_wp2_with fail
  refine (q1.out _).mono ?_; rintro e w1 ⟨rfl, hb1⟩
  have B1 : Below w.heap.size w w1 := by (repeat (first | (with_reducible exact Below.refl _ _) | ((with_reducible refine below_alloc ?_ ?_ _); · (first | omega | (simp; done) | (simp; omega))) | ((with_reducible refine below_setCell ?_ ?_ _); · (first | omega | (simp; done) | (simp; omega))) | (with_reducible refine Below.drew ?_) | (with_reducible refine below_drewN ?_ _) | ((with_reducible refine below_call (by assumption) ?_ ?_); · (first | omega | (simp; done) | (simp; omega)))))
  have z1 := B1.size
  go_wp2_with fail
  refine (q2.out _).mono ?_; rintro e w2 ⟨rfl, hb2⟩
  have B2 : Below w.heap.size w w2 := by (repeat (first | (with_reducible exact Below.refl _ _) | ((with_reducible refine below_alloc ?_ ?_ _); · (first | omega | (simp; done) | (simp; omega))) | ((with_reducible refine below_setCell ?_ ?_ _); · (first | omega | (simp; done) | (simp; omega))) | (with_reducible refine Below.drew ?_) | (with_reducible refine below_drewN ?_ _) | ((with_reducible refine below_call (by assumption) ?_ ?_); · (first | omega | (simp; done) | (simp; omega)))))
  have z2 := B2.size
  go_wp2_with fail
  refine (q3.out _).mono ?_; rintro e w3 ⟨v3, rfl, ho3, hb3⟩
  have B3 : Below w.heap.size w w3 := by (repeat (first | (with_reducible exact Below.refl _ _) | ((with_reducible refine below_alloc ?_ ?_ _); · (first | omega | (simp; done) | (simp; omega))) | ((with_reducible refine below_setCell ?_ ?_ _); · (first | omega | (simp; done) | (simp; omega))) | (with_reducible refine Below.drew ?_) | (with_reducible refine below_drewN ?_ _) | ((with_reducible refine below_call (by assumption) ?_ ?_); · (first | omega | (simp; done) | (simp; omega)))))
  have z3 := B3.size
  go_wp2_with fail
  refine (q4.out _).mono ?_; rintro e w4 ⟨v4, rfl, ho4, hb4⟩
  have B4 := below_call hb4 B3.size B3
  have z4 := B4.size
  go_wp2_with fail
  refine (sameTexts_any _ _ L L _ (ho3.reads.call hb4) ho4.reads HL.out).mono ?_; rintro e w5 ⟨rfl, hb5⟩
  have B5 := below_call hb5 B4.size B4
  have z5 := B5.size
  rw [sameB_refl]
  go_wp2_with fail
  refine (q5.out _).mono ?_; rintro e w6 ⟨rfl, hb6⟩
  have B6 := below_call hb6 B5.size B5
  go_wp2_with fail
  refine (q6.out _).mono ?_; rintro e w7 ⟨rfl, hb7⟩
  have B7 := below_call hb7 B6.size B6
  go_wp2_with fail
  refine (aw.out _).mono ?_; rintro e w8 ⟨rfl, hb8⟩
  have B8 := below_call hb8 B7.size B7
  go_wp2
  go_ret
  exact ⟨rfl, B8⟩

set_option maxRecDepth 100000 in
theorem freads_lifted (os : Os) (started : os.Started) (H : Type) (enc : TypeId × Value → H) :
    ReturnsInHanded {} Try.checked os 3 .any (Rows.frameReadsSpec.pre6 enc Try.prog Try.f3 Rows.frameReadsRow.domain false) (Rows.frameReadsSpec.post enc Try.prog Try.f3 false true false false) := by
  refine returnsInHanded_of_change (C := Try.checked) own started (by kernel_rfl) Try.func3
    (ChangeSpec.witness6 (enc := enc) (C := Try.checked) false ⟨#[], #[.string ⟨#[]⟩], []⟩ 8 (by kernel_rfl) (by kernel_rfl) (by kernel_rfl) (by kernel_rfl)) ?_
  intro W base args ds gs before hval0 hW hcnd _
  have hval : ∀ (j : Nat) t v, Try.f3.params[j]? = some t → args[j]? = some v → Value.okWide Try.prog W .any base t v := hval0
  have hW' := hW
  obtain ⟨p, q, hA0, hV, rfl, hfz, hnd⟩ := hW
  have hA : DataW.TrodAll enc Try.prog W 0 (fun _ => true) true Try.f3.params.toList args.toList ds p := hA0
  rw [Try.params3] at hA hval
  obtain ⟨v0, vs0, d0, ds0, p0, q0, hargs, rfl, rfl, h0, r0⟩ := trodAll_cons hA
  obtain ⟨rfl, rfl, rfl⟩ := trodAll_nil r0
  obtain rfl : args = #[v0] := by cases args; simp_all
  obtain ⟨rfl, rfl⟩ := trodVars_none hV
  obtain ⟨b, rfl, rfl, rfl, _⟩ := Go.ChangeMaps.open_string Try.underlying9 (hval 0 9 v0 rfl rfl) h0
  refine (freads_walk b W).mono fun e W' ⟨he, hb⟩ => ?_
  subst he
  exact ⟨_, rfl, law_post rfl rfl Try.underlying4 (by kernel_rfl) rfl hW' hb⟩
theorem freads_holds : Rows.FrameReadsSaid :=
  OpenClaim.holds_of_wide 3 Try.f3 rfl rfl rfl rfl rfl rfl rfl ⟨rfl, rfl, rfl, rfl, rfl⟩ rfl rfl rfl rfl rfl (by kernel_rfl) Try.func3 (by kernel_rfl)
    (of_decide_eq_true (by kernel_rfl)) (by unfold Func.isWrapper; first | (rw [if_pos (by decide +kernel)]; kernel_rfl) | (rw [if_neg (by decide +kernel)]; exact ⟨rfl, rfl⟩))
    (fun os started H enc _ => freads_lifted os started H enc)
end Go.Proofs.Ytbaclfpkaobggaa
