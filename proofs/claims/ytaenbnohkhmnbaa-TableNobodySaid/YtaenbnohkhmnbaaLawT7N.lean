/- TableNobody: a table that is not there has nothing: the statement holds for every input. No condition. -/
import Derived.Test.YtaenbnohkhmnbaaLawKit
import Derived.Test.YtaenbnohkhmnbaaLawOpen7
import Derived.Test.YtaenbnohkhmnbaaT7X
namespace Go.Proofs.Ytaenbnohkhmnbaa
open Go.RowKit Go.ChangeShapes Go.WideShapes Go.ChangeAt
set_option linter.unusedVariables false
set_option linter.unusedSimpArgs false

theorem slot_three (w : World) : Calls Try.prog 13 #[.int .u32 3, .int .i64 2] w fun e w' => e = .returned (.int .i64 1) ∧ w' = w :=
  slot_any 3 2 w (by decide) (by decide) (by decide)
set_option maxRecDepth 100000 in
set_option maxHeartbeats 4000000 in
theorem nobody_walk (k : Int) (s : ByteArray) (n : Int) (w : World) (hk : 0 ≤ k ∧ k ≤ 255) (hs : s.size ≤ maxLen) :
    Calls Try.prog 3 #[actV k s n] w fun e w' => e = .returned (.bool true) ∧ Below w.heap.size w w' := by
  by_cases hl : 100 < s.size
  · have hl' : (100 : Int) < s.size := by omega
    clear hl hs
    go_enter Try.func3, Try.ntmps3
    go_wp2_with fail
    refine (awake_any _).mono ?_; rintro e w1 ⟨rfl, hb1⟩
    have hz1b := hb1.size
    go_wp2
    go_ret
    exact ⟨rfl, by (repeat (first | (with_reducible exact Below.refl _ _) | ((with_reducible refine below_alloc ?_ ?_ _); · (first | omega | (simp; done) | (simp; omega))) | ((with_reducible refine below_setCell ?_ ?_ _); · (first | omega | (simp; done) | (simp; omega))) | (with_reducible refine Below.drew ?_) | (with_reducible refine below_drewN ?_ _) | ((with_reducible refine below_call (by assumption) ?_ ?_); · (first | omega | (simp; done) | (simp; omega)))))⟩
  have hl' : (s.size : Int) ≤ 100 := by omega
  have cd := fun W => do_nil k s n W hk
  obtain ⟨q, hq, hq0, hq6⟩ : ∃ q : Int, Int.tmod k 6 = q ∧ 0 ≤ q ∧ q ≤ 5 := ⟨_, rfl, by rw [Int.tmod_eq_emod_of_nonneg hk.1]; omega, by rw [Int.tmod_eq_emod_of_nonneg hk.1]; omega⟩
  have hq' : k % 6 = q := by rw [← hq, Int.tmod_eq_emod_of_nonneg hk.1]
  rw [hq] at cd
  have hqs : q = 2 ∨ q = 3 ∨ q = 4 ∨ q = 5 ∨ q = 0 ∨ q = 1 := by omega
  clear hk hs hl
  rcases hqs with rfl | rfl | rfl | rfl | rfl | rfl
  all_goals
    first | rw [show nilE 2 = 0 from rfl] at cd | rw [show nilE 3 = 1 from rfl] at cd | rw [show nilE 4 = 0 from rfl] at cd | rw [show nilE 5 = 0 from rfl] at cd | rw [show nilE 0 = 1 from rfl] at cd | rw [show nilE 1 = 1 from rfl] at cd
    go_enter Try.func3, Try.ntmps3
    go_wp2_with fail
    refine (cd _).mono ?_; rintro e w1 ⟨rfl, hb1⟩
    obtain ⟨hk1, hf1, hz1⟩ := bcellN (n := w.heap.size + 1) (by (try simp only [World.size_drew, World.size_alloc, World.size_setCell]); omega) hb1; have hz1_0 : w.heap.size < w1.heap.size := (by omega)
    go_wp2_with fail
    refine (len_nil _).mono ?_; rintro e w3 ⟨rfl, hb3⟩
    obtain ⟨hk3, hf3, hz3⟩ := bcellN (n := w.heap.size + 1) (by (try simp only [World.size_drew, World.size_alloc, World.size_setCell]); omega) hb3; have hz3_0 : w.heap.size < w3.heap.size := (by omega)
    go_wp2_with fail
    refine (full_nil _).mono ?_; rintro e w4 ⟨rfl, hb4⟩
    obtain ⟨hk4, hf4, hz4⟩ := bcellN (n := w.heap.size + 1) (by (try simp only [World.size_drew, World.size_alloc, World.size_setCell]); omega) hb4; have hz4_0 : w.heap.size < w4.heap.size := (by omega)
    go_wp2_with fail
    refine (all_nil _).mono ?_; rintro e w5 ⟨rfl, hb5⟩
    obtain ⟨hk5, hf5, hz5⟩ := bcellN (n := w.heap.size + 1) (by (try simp only [World.size_drew, World.size_alloc, World.size_setCell]); omega) hb5; have hz5_0 : w.heap.size < w5.heap.size := (by omega)
    go_wp2_with fail
    refine (where_nil s _).mono ?_; rintro e w6 ⟨rfl, hb6⟩
    have hz6b := hb6.size
    go_wp2_with fail
    refine (slots_nil _).mono ?_; rintro e w7 ⟨rfl, hb7⟩
    have hz7b := hb7.size
    go_wp2_with fail
    refine (slot_three _).mono ?_; rintro e w8 ⟨rfl, hw⟩
    replace hw := hw.symm
    subst hw
    go_wp2_with fail
    refine (awake_any _).mono ?_; rintro e w9 ⟨rfl, hb9⟩
    have hz9b := hb9.size
    go_wp2
    go_ret
    exact ⟨rfl, by (repeat (first | (with_reducible exact Below.refl _ _) | ((with_reducible refine below_alloc ?_ ?_ _); · (first | omega | (simp; done) | (simp; omega))) | ((with_reducible refine below_setCell ?_ ?_ _); · (first | omega | (simp; done) | (simp; omega))) | (with_reducible refine Below.drew ?_) | (with_reducible refine below_drewN ?_ _) | ((with_reducible refine below_call (by assumption) ?_ ?_); · (first | omega | (simp; done) | (simp; omega)))))⟩

set_option maxRecDepth 100000 in
theorem tnobody_lifted (os : Os) (started : os.Started) (H : Type) (enc : TypeId × Value → H) :
    ReturnsInHanded {} Try.checked os 3 .any (Rows.tableNobodySpec.pre6 enc Try.prog Try.f3 Rows.tableNobodyRow.domain false) (Rows.tableNobodySpec.post enc Try.prog Try.f3 false true false false) := by
  refine returnsInHanded_of_change (C := Try.checked) own started (by kernel_rfl) Try.func3
    (ChangeSpec.witness6 (enc := enc) (C := Try.checked) false ⟨#[], #[.agg #[.int .u8 0, .string ⟨#[]⟩, .int .i64 0]], []⟩ 8 (by kernel_rfl) (by kernel_rfl) (by kernel_rfl) (by kernel_rfl)) ?_
  intro W base args ds gs before hval0 hW hcnd _
  have hval : ∀ (j : Nat) t v, Try.f3.params[j]? = some t → args[j]? = some v → Value.okWide Try.prog W .any base t v := hval0
  have hW' := hW
  obtain ⟨p, q, hA0, hV, rfl, hfz, hnd⟩ := hW
  have hA : DataW.TrodAll enc Try.prog W 0 (fun _ => true) true Try.f3.params.toList args.toList ds p := hA0
  rw [Try.params3] at hA hval
  obtain ⟨v0, vs0, d0, ds0, p0, q0, hargs, rfl, rfl, h0, r0⟩ := trodAll_cons hA
  obtain ⟨rfl, rfl, rfl⟩ := trodAll_nil r0
  obtain rfl : args = #[v0] := by cases args; simp_all
  obtain ⟨rfl, rfl⟩ := trodVars_none hV
  obtain ⟨k, s, n, rfl, hk, hs⟩ := open_cal (hval 0 23 v0 rfl rfl) h0
  refine (nobody_walk k s n W hk hs).mono fun e W' ⟨he, hb⟩ => ?_
  subst he
  exact ⟨_, rfl, law_post rfl rfl Try.underlying4 (by kernel_rfl) rfl hW' hb⟩
theorem tnobody_holds : Rows.TableNobodySaid :=
  OpenClaim.holds_of_wide 3 Try.f3 rfl rfl rfl rfl rfl rfl rfl ⟨rfl, rfl, rfl, rfl, rfl⟩ rfl rfl rfl rfl rfl (by kernel_rfl) Try.func3 (by kernel_rfl)
    (of_decide_eq_true (by kernel_rfl)) (by unfold Func.isWrapper; first | (rw [if_pos (by decide +kernel)]; kernel_rfl) | (rw [if_neg (by decide +kernel)]; exact ⟨rfl, rfl⟩))
    (fun os started H enc _ => tnobody_lifted os started H enc)
end Go.Proofs.Ytaenbnohkhmnbaa
