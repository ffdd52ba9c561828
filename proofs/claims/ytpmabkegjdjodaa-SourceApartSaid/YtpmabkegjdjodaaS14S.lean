/- Layer 14, the program's contracts, all together: Take in all its cases. -/
import Derived.Test.YtpmabkegjdjodaaP14I
import Derived.Test.YtpmabkegjdjodaaP14J
import Derived.Test.YtpmabkegjdjodaaP14K
import Derived.Test.YtpmabkegjdjodaaP14L
import Derived.Test.YtpmabkegjdjodaaP14M
namespace Go.Proofs.Ytpmabkegjdjodaa
open Go.RowKit
set_option linter.unusedVariables false
set_option linter.unusedSimpArgs false

theorem pstake_own (B R : Int) (v : Value) (L : List En) (s now : Int) (w : World) (hv : IsR 3 enC w v L) (hl : L.length ≤ 1000000) :
    Calls Try.prog 8 #[twV B R, v, .int .i64 s, .int .i64 now] w fun e w' => ∃ v', e = .returned (.tuple #[v', .int .i64 (tkE14 B R L s now)]) ∧ OwnR 64 3 enC w' w.heap.size v' (tkS14 B R L s now) ∧ Below w.heap.size w w' := by
  by_cases hc : chkS14 B R L = 0
  case neg => exact ptake_bad B R v L s now w hv hl hc
  cases hm : mayS s with
  | false => exact ptake_arg B R v L s now w hv hl hc hm
  | true =>
  have h0 : ¬ chkS14 B R L ≠ 0 := by rw [hc]; decide
  have h1 : ¬ mayS s = false := by rw [hm]; decide
  have h8 : (clnS B R L now).length ≤ 8 := by rw [cln_fl hc now]; exact Nat.le_trans (List.length_filter_le _ _) (chk_iff.1 hc).2.1
  have eE : tkE14 B R L s now = if getS (clnS B R L now) s = none ∧ 8 ≤ (clnS B R L now).length then 7
      else if tkB B R (bukS B (clnS B R L now) s now).1 (bukS B (clnS B R L now) s now).2 now 1 = false then 14 else 0 := by
    unfold tkE14
    rw [if_neg h0, if_neg h1]
  have eS : tkS14 B R L s now = if tkE14 B R L s now ≠ 0 then clnS B R L now
      else putS14 (clnS B R L now) s (tkT B R (bukS B (clnS B R L now) s now).1 (bukS B (clnS B R L now) s now).2 now 1, tkA B R (bukS B (clnS B R L now) s now).1 (bukS B (clnS B R L now) s now).2 now 1) := by
    unfold tkS14
    rw [if_neg h0, if_neg h1]
  cases hg : (getS (clnS B R L now) s).isSome with
  | true =>
    rw [if_neg (fun h => by rw [h.1] at hg; cases hg)] at eE
    cases hok : tkB B R (bukS B (clnS B R L now) s now).1 (bukS B (clnS B R L now) s now).2 now 1 with
    | false =>
      rw [hok, if_pos rfl] at eE
      exact ptake_spent1 B R v L s now w hv hl hc hm hg hok eE (by rw [eS, if_pos (by rw [eE]; decide)])
    | true =>
      rw [hok, if_neg (by decide)] at eE
      exact ptake_yes B R v L s now w hv hl hc hm hg hok eE (by rw [eS, if_neg (by rw [eE]; decide)])
  | false =>
    by_cases hlen : (clnS B R L now).length = 8
    · rw [if_pos ⟨by simpa using hg, by omega⟩] at eE
      exact ptake_full B R v L s now w hv hl hc hm hg hlen eE (by rw [eS, if_pos (by rw [eE]; decide)])
    · rw [if_neg (fun h => by have := h.2; omega)] at eE
      cases hok : tkB B R (bukS B (clnS B R L now) s now).1 (bukS B (clnS B R L now) s now).2 now 1 with
      | false =>
        rw [hok, if_pos rfl] at eE
        exact ptake_spent2 B R v L s now w hv hl hc hm hg hlen hok eE (by rw [eS, if_pos (by rw [eE]; decide)])
      | true =>
        rw [hok, if_neg (by decide)] at eE
        exact ptake_no B R v L s now w hv hl hc hm hg hlen hok eE (by rw [eS, if_neg (by rw [eE]; decide)])
theorem pstake_sep (B R : Int) (v : Value) (L : List En) (s now : Int) (w : World) (hv : IsR 3 enC w v L) (hl : L.length ≤ 1000000) : Calls Try.prog 8 #[twV B R, v, .int .i64 s, .int .i64 now] w fun e w' => ∃ v', e = .returned (.tuple #[v', .int .i64 (tkE14 B R L s now)]) ∧ IsR 3 enC w' v' (tkS14 B R L s now) ∧ NewOr w.heap.size w' v v' ∧ Below w.heap.size w w' :=
  (pstake_own B R v L s now w hv hl).mono (fun e w1 ⟨v', h1, h2, h3⟩ => ⟨v', h1, h2.reads enC_len, own_near h2, h3⟩)
theorem pstake_any (B R : Int) (v : Value) (L : List En) (s now : Int) (w : World) (hv : IsR 3 enC w v L) (hl : L.length ≤ 1000000) : Calls Try.prog 8 #[twV B R, v, .int .i64 s, .int .i64 now] w fun e w' => ∃ v', e = .returned (.tuple #[v', .int .i64 (tkE14 B R L s now)]) ∧ IsR 3 enC w' v' (tkS14 B R L s now) ∧ Below w.heap.size w w' :=
  (pstake_own B R v L s now w hv hl).mono (fun e w1 ⟨v', h1, h2, h3⟩ => ⟨v', h1, h2.reads enC_len, h3⟩)
end Go.Proofs.Ytpmabkegjdjodaa
