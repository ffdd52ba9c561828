/- A row of the call's own is turned: append(l[1:], l[0]). -/
import Derived.Test.YtkcenadenmkgnaaC9U
import Derived.Deep.RegionLawGrows
namespace Go.Proofs.Ytkcenadenmkgnaa
open Go.RowKit
set_option linter.unusedVariables false
set_option linter.unusedSimpArgs false

theorem wp_turn {w : World} {o : Oper} {act : Act} {K : Act → World → Prop} {Q : Exit → Act → World → Prop} (s x : Operand)
    (ho : o.op = .call { callee := .builtin .append, args := #[s, x], argTypes := #[23, 23] })
    (B g cap : Nat) (a : Int) (r : List Int) (hown : w.ownsRow B 3 1 (.slice (some ⟨g, 0, none⟩) (r.length + 1) cap) (r.length + 1) ((a :: r).map (Value.int .i64)))
    (p : Option Addr) (hp : (if cap = 1 then some ⟨g, 0, none⟩ else some ⟨g, 1, none⟩) = p) (hs : act.eval s = .slice p r.length (cap - 1))
    (b : Nat) (hx : act.eval x = .slice (some ⟨b, 0, none⟩) 1 1) (hb : w.cell? ⟨b, 0, none⟩ = some (.int .i64 a)) (hl : r.length ≤ 1000)
    (h : ∀ v' w', (∃ ao cp, v' = .slice ao (r.length + 1) cp) → IsI w' v' (r ++ [a]) → (∀ q, q < w.heap.size → q ≠ g → NotAt q v' ∧ w'.heap[q]? = w.heap[q]?) → w.heap.size ≤ w'.heap.size → Below B w w' → K (act.put o.dst v') w') : Oper.wp Try.prog o act w K Q := by
  obtain ⟨i0, hi, hj0, hj1, hj2⟩ := info_parts info_int
  have hgl := own_lt hown
  have hcell := fun j (hj : j < r.length + 1) => hown.cellAt j (by simpa using hj)
  have hfz := fun j => hown.frozenAt j
  have hcap : r.length + 1 ≤ cap ∧ ∀ j, j < cap → (w.cell? ⟨g, j, none⟩).isSome = true := by
    obtain ⟨_, h2⟩ := hown
    rcases h2 with ⟨hv, _⟩ | ⟨g', cap', cur, hv, hB, hg, hle, hcm, hcs, ht⟩
    · cases hv
    · cases hv
      refine ⟨hle, fun j hj => ?_⟩
      unfold World.cell?
      rw [hg]
      simp; omega
  have hnews : ∀ j u, [Value.int .i64 a][j]? = some u → w.cell? ((⟨b, 0, none⟩ : Addr).add j) = some u := fun j u hu => by
    match j, hu with
    | 0, hu => simp at hu; subst hu; rw [Addr.add_lit]; exact hb
  by_cases hroom : r.length + 1 < cap
  · have hc1 : ¬ cap = 1 := by omega
    rw [if_neg hc1] at hp
    subst hp
    have hrun := run_append_room_cells (P := Try.prog) w 23 o.type 3 i0 Try.underlying23 hi g 1 r.length (cap - 1) ⟨b, 0, none⟩ 1 1 [.int .i64 a] (by rw [hj1]; rfl) hnews (by simp [Value.oneCell']) (by omega)
      (fun j hj => by rw [hj1]; exact hcap.2 _ (by simp at hj; omega)) (fun j hj => hfz _)
    have hg2 := h (.slice (some ⟨g, 1, none⟩) (r.length + 1) (cap - 1)) (w.setCell ⟨g, r.length + 1, none⟩ (.int .i64 a)) ⟨_, _, rfl⟩ ?_ ?_ (by simp) (below_at (Below.refl _ _) _ (World.ownsRow.lt hown g rfl).1)
    · unfold Oper.wp
      simp [execOp, ho, resolve, invoke, builtin, hs, hx, hrun, Result.andThen]
      rw [hj1, Nat.mul_one, Nat.add_comm 1 r.length]
      exact hg2
    · refine ⟨some ⟨g, 1, none⟩, cap - 1, by simp, fun j hj => ⟨g, 1, rfl, ?_⟩⟩
      rw [List.length_append, List.length_singleton] at hj
      by_cases e : j = r.length
      · subst e
        rw [Nat.add_comm 1 r.length]
        obtain ⟨u, hu⟩ := Option.isSome_iff_exists.1 (hcap.2 (r.length + 1) hroom)
        rw [World.cell?_setCell_same _ _ _ hu]; simp
      · rw [World.cell?_setCell_other _ _ _ _ (by intro e2; have := congrArg Addr.off e2; simp at this; omega), Nat.add_comm 1 j]
        have := hcell (j + 1) (by omega)
        rw [this]
        rw [List.getElem_append_left (by omega)]
        simp
    · intro q hq hne
      exact ⟨fun b' o' s' n' c' e => by cases e; exact fun e2 => hne e2.symm, Below.heap_setCell w _ _ q hne⟩
  · have hcc : cap = r.length + 1 := by omega
    have holds : ∀ b0, p = some b0 → ∀ j u, (r.map (Value.int .i64))[j]? = some u → w.cell? (b0.add j) = some u := by
      intro b0 hb0 j u hu
      have hj := (List.getElem?_eq_some_iff.1 hu).1
      rw [List.length_map] at hj
      rw [if_neg (by omega)] at hp
      rw [← hp] at hb0
      cases hb0
      rw [Addr.add_lit, Nat.add_comm 1 j]
      have := hcell (j + 1) (by omega)
      rw [this, ← hu]; simp
    have hpn : p ≠ none := by rw [← hp]; split <;> simp
    obtain ⟨pb, rfl⟩ := Option.ne_none_iff_exists'.1 hpn
    obtain ⟨v', w', hrun, r1, r2⟩ := run_append_arg_grows (P := Try.prog) w 23 o.type 3 i0 (.int .i64 0) 1 8 Try.underlying23 hi hj0 hj1 hj2 rfl (by decide) pb r.length (cap - 1) (r.map (Value.int .i64)) (by simp) (holds pb rfl) ⟨b, 0, none⟩ 1 1 [.int .i64 a] rfl hnews (by omega) (by unfold maxLen; omega) (by omega)
    have hv : OwnI w' w.heap.size v' (r ++ [a]) := by
      show World.ownsRow _ _ _ _ _ _ _
      rw [List.length_append, List.map_append]; exact r1
    have hb' : Below w.heap.size w w' := (Below.refl _ _).grown r2 (Nat.le_refl _) (fun q hq => by cases hq)
    have hg2 := h v' w' (by obtain ⟨ao, cp, e⟩ := rowI_shape hv; exact ⟨ao, cp, by rw [e]; simp⟩) hv.reads (fun q hq hne => ⟨own_notAt (n := 0) hv (fun q2 hq2 e => by have := (World.ownsRow.lt hv q2 hq2).1; omega), hb'.block q hq⟩) hb'.size (hb'.mono (by have := (World.ownsRow.lt hown g rfl).1; omega))
    unfold Oper.wp
    simp [execOp, ho, resolve, invoke, builtin, hs, hx, hrun, Result.andThen]
    exact hg2
theorem step_turn {w : World} {ops : Array Oper} {o : Oper} {act : Act} {K : Act → World → Prop} {Q : Exit → Act → World → Prop} {E : Prop} (hgd : o.guard = none) (s x : Operand)
    (ho : o.op = .call { callee := .builtin .append, args := #[s, x], argTypes := #[23, 23] })
    (B g cap : Nat) (a : Int) (r : List Int) (hown : w.ownsRow B 3 1 (.slice (some ⟨g, 0, none⟩) (r.length + 1) cap) (r.length + 1) ((a :: r).map (Value.int .i64)))
    (p : Option Addr) (hp : (if cap = 1 then some ⟨g, 0, none⟩ else some ⟨g, 1, none⟩) = p) (hs : act.eval s = .slice p r.length (cap - 1))
    (b : Nat) (hx : act.eval x = .slice (some ⟨b, 0, none⟩) 1 1) (hb : w.cell? ⟨b, 0, none⟩ = some (.int .i64 a)) (hl : r.length ≤ 1000)
    (h : ∀ v' w', (∃ ao cp, v' = .slice ao (r.length + 1) cp) → IsI w' v' (r ++ [a]) → (∀ q, q < w.heap.size → q ≠ g → NotAt q v' ∧ w'.heap[q]? = w.heap[q]?) → w.heap.size ≤ w'.heap.size → Below B w w' → K (act.put o.dst v') w') :
    if Region.wanted o (yielded ops act.tmps) = true then Oper.wp Try.prog o act w K Q else E := by
  have hw : Region.wanted o (yielded ops act.tmps) = true := by simp [Region.wanted, hgd]
  rw [if_pos hw]
  exact wp_turn s x ho B g cap a r hown p hp hs b hx hb hl h
end Go.Proofs.Ytkcenadenmkgnaa
