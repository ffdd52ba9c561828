/- FifoNobody: a ring that is not there has nothing: the statement holds for every input. No condition. -/
import Derived.Test.YtphgilgmoeliaaaLawKit
import Derived.Test.YtphgilgmoeliaaaLawOpenC
import Derived.Test.YtphgilgmoeliaaaF5Y
namespace Go.Proofs.Ytphgilgmoeliaaa
open Go.RowKit Go.ChangeShapes Go.WideShapes Go.ChangeAt
set_option linter.unusedVariables false
set_option linter.unusedSimpArgs false

set_option maxRecDepth 100000 in
set_option maxHeartbeats 4000000 in
theorem nobody_walk (k n i : Int) (w : World) (hk : 0 ≤ k ∧ k ≤ 255) :
    Calls Try.prog 4 #[actV k n, .int .i64 i] w fun e w' => e = .returned (.bool true) ∧ Below w.heap.size w w' := by
  have cd := fun W => do_nil k n W hk
  obtain ⟨b, hb⟩ : ∃ b, decide (Int.tmod k 7 = 5) = b := ⟨_, rfl⟩
  rw [hb] at cd
  have hq' : Int.tmod k 7 = k % 7 := Int.tmod_eq_emod_of_nonneg hk.1
  cases b
  · have h5 : ¬ k % 7 = 5 := by rw [← hq']; simpa using hb
    have h5' : (k % 7 == 5) = false := by simpa using h5
    have h5'' : (Int.tmod k 7 == 5) = false := by rw [hq']; exact h5'
    clear hb hq' h5
    go_enter Try.func4, Try.ntmps4
    go_wp2_with fail
    refine (cd _).mono ?_; rintro e w1 ⟨rfl, hb1⟩
    obtain ⟨hk1, hf1, hz1⟩ := bcellN (n := w.heap.size + 1) (by (try simp only [World.size_drew, World.size_alloc, World.size_setCell]); omega) hb1; have hz1_0 : w.heap.size < w1.heap.size := (by omega)
    go_wp2_with fail
    refine (at_nil i _).mono ?_; rintro e w2 ⟨rfl, hb2⟩
    obtain ⟨hk2, hf2, hz2⟩ := bcellN (n := w.heap.size + 1) (by (try simp only [World.size_drew, World.size_alloc, World.size_setCell]); omega) hb2; have hz2_0 : w.heap.size < w2.heap.size := (by omega)
    go_wp2_with fail
    refine (len_nil _).mono ?_; rintro e w3 ⟨rfl, hb3⟩
    have hz3b := hb3.size
    go_wp2_with fail
    refine (room_nil _).mono ?_; rintro e w4 ⟨rfl, hb4⟩
    have hz4b := hb4.size
    go_wp2_with fail
    refine (all_nil _).mono ?_; rintro e w5 ⟨rfl, hb5⟩
    have hz5b := hb5.size
    go_wp2_with fail
    refine (find_nil i _).mono ?_; rintro e w6 ⟨rfl, hb6⟩
    have hz6b := hb6.size
    go_wp2_with fail
    refine (awake_any _).mono ?_; rintro e w7 ⟨rfl, hb7⟩
    have hz7b := hb7.size
    go_wp2
    go_ret
    exact ⟨rfl, by (repeat (first | (with_reducible exact Below.refl _ _) | ((with_reducible refine below_alloc ?_ ?_ _); · (first | omega | (simp; done) | (simp; omega))) | ((with_reducible refine below_setCell ?_ ?_ _); · (first | omega | (simp; done) | (simp; omega))) | (with_reducible refine Below.drew ?_) | (with_reducible refine below_drewN ?_ _) | ((with_reducible refine below_call (by assumption) ?_ ?_); · (first | omega | (simp; done) | (simp; omega)))))⟩
  · have h5 : k % 7 = 5 := by rw [← hq']; simpa using hb
    have h5' : Int.tmod k 7 = 5 := by rw [hq']; exact h5
    clear hb hq'
    go_enter Try.func4, Try.ntmps4
    go_wp2_with fail
    refine (cd _).mono ?_; rintro e w1 ⟨rfl, hb1⟩
    obtain ⟨hk1, hf1, hz1⟩ := bcellN (n := w.heap.size + 1) (by (try simp only [World.size_drew, World.size_alloc, World.size_setCell]); omega) hb1; have hz1_0 : w.heap.size < w1.heap.size := (by omega)
    go_wp2_with fail
    refine (at_nil i _).mono ?_; rintro e w2 ⟨rfl, hb2⟩
    obtain ⟨hk2, hf2, hz2⟩ := bcellN (n := w.heap.size + 1) (by (try simp only [World.size_drew, World.size_alloc, World.size_setCell]); omega) hb2; have hz2_0 : w.heap.size < w2.heap.size := (by omega)
    go_wp2_with fail
    refine (len_nil _).mono ?_; rintro e w3 ⟨rfl, hb3⟩
    have hz3b := hb3.size
    go_wp2_with fail
    refine (room_nil _).mono ?_; rintro e w4 ⟨rfl, hb4⟩
    have hz4b := hb4.size
    go_wp2_with fail
    refine (all_nil _).mono ?_; rintro e w5 ⟨rfl, hb5⟩
    have hz5b := hb5.size
    go_wp2_with fail
    refine (find_nil i _).mono ?_; rintro e w6 ⟨rfl, hb6⟩
    have hz6b := hb6.size
    go_wp2_with fail
    refine (awake_any _).mono ?_; rintro e w7 ⟨rfl, hb7⟩
    have hz7b := hb7.size
    go_wp2
    go_ret
    exact ⟨rfl, by (repeat (first | (with_reducible exact Below.refl _ _) | ((with_reducible refine below_alloc ?_ ?_ _); · (first | omega | (simp; done) | (simp; omega))) | ((with_reducible refine below_setCell ?_ ?_ _); · (first | omega | (simp; done) | (simp; omega))) | (with_reducible refine Below.drew ?_) | (with_reducible refine below_drewN ?_ _) | ((with_reducible refine below_call (by assumption) ?_ ?_); · (first | omega | (simp; done) | (simp; omega)))))⟩

set_option maxRecDepth 100000 in
theorem fnobody_lifted (os : Os) (started : os.Started) (H : Type) (enc : TypeId × Value → H) :
    ReturnsInHanded {} Try.checked os 4 .any (Rows.fifoNobodySpec.pre6 enc Try.prog Try.f4 Rows.fifoNobodyRow.domain false) (Rows.fifoNobodySpec.post enc Try.prog Try.f4 false true false false) := by
  refine returnsInHanded_of_change (C := Try.checked) own started (by kernel_rfl) Try.func4
    (ChangeSpec.witness6 (enc := enc) (C := Try.checked) false ⟨#[], #[.agg #[.int .u8 0, .int .i64 0], .int .i64 0], []⟩ 8 (by kernel_rfl) (by kernel_rfl) (by kernel_rfl) (by kernel_rfl)) ?_
  intro W base args ds gs before hval0 hW hcnd _
  have hval : ∀ (j : Nat) t v, Try.f4.params[j]? = some t → args[j]? = some v → Value.okWide Try.prog W .any base t v := hval0
  have hW' := hW
  obtain ⟨p, q, hA0, hV, rfl, hfz, hnd⟩ := hW
  have hA : DataW.TrodAll enc Try.prog W 0 (fun _ => true) true Try.f4.params.toList args.toList ds p := hA0
  rw [Try.params4] at hA hval
  obtain ⟨v0, vs0, d0, ds0, p0, q0, hargs, rfl, rfl, h0, r0⟩ := trodAll_cons hA
  obtain ⟨v1, vs1, d1, ds1, p1, q1, rfl, rfl, rfl, h1, r1⟩ := trodAll_cons r0
  obtain ⟨rfl, rfl, rfl⟩ := trodAll_nil r1
  obtain rfl : args = #[v0, v1] := by cases args; simp_all
  obtain ⟨rfl, rfl⟩ := trodVars_none hV
  obtain ⟨k, n, rfl, hk⟩ := open_cal (hval 0 36 v0 rfl rfl) h0
  obtain ⟨i, rfl, rfl, rfl, _⟩ := open_int Try.underlying3 (hval 1 3 v1 rfl rfl) h1
  refine (nobody_walk k n i W hk).mono fun e W' ⟨he, hb⟩ => ?_
  subst he
  exact ⟨_, rfl, law_post rfl rfl Try.underlying4 (by kernel_rfl) rfl hW' hb⟩
theorem fnobody_holds : Rows.FifoNobodySaid :=
  OpenClaim.holds_of_wide 4 Try.f4 rfl rfl rfl rfl rfl rfl rfl ⟨rfl, rfl, rfl, rfl, rfl⟩ rfl rfl rfl rfl rfl (by kernel_rfl) Try.func4 (by kernel_rfl)
    (of_decide_eq_true (by kernel_rfl)) (by unfold Func.isWrapper; first | (rw [if_pos (by decide +kernel)]; kernel_rfl) | (rw [if_neg (by decide +kernel)]; exact ⟨rfl, rfl⟩))
    (fun os started H enc _ => fnobody_lifted os started H enc)
end Go.Proofs.Ytphgilgmoeliaaa
