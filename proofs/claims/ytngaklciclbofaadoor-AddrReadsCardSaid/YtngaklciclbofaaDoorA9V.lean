/- Layer 9, the program's: two addresses held together. -/
import Derived.Test.YtngaklciclbofaaDoorA9K
import Derived.ChangeKeysEq
namespace Go.Proofs.YtngaklciclbofaaDoor
open Go.RowKit
set_option linter.unusedVariables false
set_option linter.unusedSimpArgs false

theorem eqItems_str {P : Program} (w : World) (d : Nat) {e : TypeId} (he : P.plainKey e = true) (hu : P.underlying e = some .string) (c : Nat) (xs ys : Array Value) (i : Nat) (is : List Nat) (x y : ByteArray)
    (hx : xs[i * c]? = some (.string x)) (hy : ys[i * c]? = some (.string y)) :
    (Op.eqItems (d + 1) e c xs ys (i :: is)).run P w = if decide (x = y) = true then (Op.eqItems (d + 1) e c xs ys is).run P w else .ok false w := by
  simp only [Op.eqItems, Sem.run_bind, run_part_plain w he hx, run_part_plain w he hy, run_equalIn_string w d e x y hu, Result.andThen_ok]
  rw [str_beq]
  cases decide (x = y) <;> simp
theorem eql_texts (d : Nat) (n h r n' h' r' : ByteArray) (w : World) :
    (Op.equalIn (d + 2) 54 (.agg #[.string n, .string h, .string r]) (.agg #[.string n', .string h', .string r'])).run Tryd.prog w
      = .ok (decide ((n, h, r) = (n', h', r'))) w := by
  obtain ⟨i, hi, hc⟩ : ∃ i, Tryd.prog.info? 9 = some i ∧ Tryd.prog.cellsOf 9 = 1 := by
    have h1 : (Tryd.prog.info? 9).isSome = true := by kernel_rfl
    obtain ⟨i, hi⟩ := Option.isSome_iff_exists.1 h1
    exact ⟨i, hi, by kernel_rfl⟩
  have he : Tryd.prog.plainKey 9 = true := by kernel_rfl
  rw [show d + 2 = d + 1 + 1 from rfl, run_equalIn_array w (d + 1) _ _ Tryd.underlying54 hi, hc, show List.range 3 = [0, 1, 2] from rfl,
    eqItems_str w d he Tryd.underlying9 1 _ _ 0 _ n n' rfl rfl, eqItems_str w d he Tryd.underlying9 1 _ _ 1 _ h h' rfl rfl, eqItems_str w d he Tryd.underlying9 1 _ _ 2 _ r r' rfl rfl]
  simp only [Op.eqItems, Sem.run_pure]
  by_cases e1 : n = n' <;> by_cases e2 : h = h' <;> by_cases e3 : r = r' <;> simp [e1, e2, e3]
set_option maxRecDepth 100000 in
set_option maxHeartbeats 4000000 in
theorem asame_any (n h r n' h' r' : ByteArray) (w : World) :
    Calls Tryd.prog 24 #[adV n h r, adV n' h' r'] w fun e w' => e = .returned (.bool (decide ((n, h, r) = (n', h', r')))) ∧ Below w.heap.size w w' := by
  have ca := Lib.hid (fun W => parts_any n h r W)
  have cb := Lib.hid (fun W => parts_any n' h' r' W)
  have hq := fun d W => eql_texts d n h r n' h' r' W
  have HD : Hid (∀ b, decide ((n, h, r) = (n', h', r')) = b → Ending.returned (.bool b) = .returned (.bool (decide ((n, h, r) = (n', h', r'))))) := Lib.hid (fun b hb => by rw [hb])
  simp only [adV] at *
  generalize decide ((n, h, r) = (n', h', r')) = q at hq HD ⊢
  go_enter Tryd.func24, Tryd.ntmps24
  go_wp2_with fail
  refine gen_world (F := fun W => ((W.cell? ⟨w.heap.size, 0, none⟩ = some (.string n) ∧ W.cell? ⟨w.heap.size, 1, none⟩ = some (.string h) ∧ W.cell? ⟨w.heap.size, 2, none⟩ = some (.string r)) ∧ (W.cell? ⟨w.heap.size + 1, 0, none⟩ = some (.string n') ∧ W.cell? ⟨w.heap.size + 1, 1, none⟩ = some (.string h') ∧ W.cell? ⟨w.heap.size + 1, 2, none⟩ = some (.string r'))) ∧ Below w.heap.size w W) ⟨by simp [go_sem], by (repeat (first | (with_reducible exact Below.refl _ _) | ((with_reducible refine below_alloc ?_ ?_ _); · (first | omega | (simp; done) | (simp; omega))) | ((with_reducible refine below_setCell ?_ ?_ _); · (first | omega | (simp; done) | (simp; omega))) | (with_reducible refine Below.drew ?_) | (with_reducible refine below_drewN ?_ _) | ((with_reducible refine below_call (by assumption) ?_ ?_); · (first | omega | (simp; done) | (simp; omega)))))⟩ (fun wt hF => ?_)
  obtain ⟨⟨X, Y⟩, hB⟩ := hF
  have hout : ∀ w', Below wt.heap.size wt w' → ((w'.cell? ⟨w.heap.size, 0, none⟩ = some (.string n) ∧ w'.cell? ⟨w.heap.size, 1, none⟩ = some (.string h) ∧ w'.cell? ⟨w.heap.size, 2, none⟩ = some (.string r)) ∧ (w'.cell? ⟨w.heap.size + 1, 0, none⟩ = some (.string n') ∧ w'.cell? ⟨w.heap.size + 1, 1, none⟩ = some (.string h') ∧ w'.cell? ⟨w.heap.size + 1, 2, none⟩ = some (.string r'))) := fun w' hb => ⟨Bx3.call X hb, Bx3.call Y hb⟩
  have hT : Below wt.heap.size wt wt.drew := Below.drew (Below.refl _ _)
  clear X Y
  refine wp_region_held_drew (S := fun w' => ((w'.cell? ⟨w.heap.size, 0, none⟩ = some (.string n) ∧ w'.cell? ⟨w.heap.size, 1, none⟩ = some (.string h) ∧ w'.cell? ⟨w.heap.size, 2, none⟩ = some (.string r)) ∧ (w'.cell? ⟨w.heap.size + 1, 0, none⟩ = some (.string n') ∧ w'.cell? ⟨w.heap.size + 1, 1, none⟩ = some (.string h') ∧ w'.cell? ⟨w.heap.size + 1, 2, none⟩ = some (.string r')))) (by kernel_rfl) (hout _ (by assumption)) (fun hHeld => ?_)
  (refine wpAnyH_take (i := 0) (v := ?_) rfl (by kernel_rfl) (by kernel_rfl) (by kernel_rfl) (fun _ _ _ h => h) (Or.inl ⟨by rfl, ?_⟩) (by assumption) ?_; rotate_left 1; (focus (intro wz hz; (try dsimp only at hz); (try simp only [List.getElem_toArray, List.getElem_cons_succ, List.getElem_cons_zero]); go_simp; try (with_reducible rfl); done)))
  try simp only [Act.put, List.getElem_toArray, List.getElem_cons_succ, List.getElem_cons_zero, List.setIfInBounds_toArray, List.set_cons_zero, List.set_cons_succ]
  (refine wpAnyH_take (i := 2) (v := ?_) rfl (by kernel_rfl) (by kernel_rfl) (by kernel_rfl) (fun _ _ _ h => h) (Or.inl ⟨by rfl, ?_⟩) (by assumption) ?_; rotate_left 1; (focus (intro wz hz; (try dsimp only at hz); (try simp only [List.getElem_toArray, List.getElem_cons_succ, List.getElem_cons_zero]); go_simp; try (with_reducible rfl); done)))
  try simp only [Act.put, List.getElem_toArray, List.getElem_cons_succ, List.getElem_cons_zero, List.setIfInBounds_toArray, List.set_cons_zero, List.set_cons_succ]
  (refine wpAnyH_ready (rs := [1]) (by kernel_rfl) (by simp) ?_; refine AllReadyH.cons rfl (fun K hK => ?_) AllReadyH.nil; (try simp only [List.getElem_toArray, List.getElem_cons_succ, List.getElem_cons_zero]); go_simp; go_at_call 32; refine (ca.out _).mono ?_; rintro e wn1 ⟨rfl, hbn1⟩; have hT1 : Below wt.heap.size wt wn1 := (by first | exact hT.trans (hbn1.mono (Nat.le_refl _)) | exact hT1.trans (hbn1.mono hT1.size)); (try (go_wp2_with fail)); refine hK.out _ _ (hout _ (by assumption)) (fun hHeld => ?_); clear hK K)
  try simp only [Act.put, List.getElem_toArray, List.getElem_cons_succ, List.getElem_cons_zero, List.setIfInBounds_toArray, List.set_cons_zero, List.set_cons_succ]
  (refine wpAnyH_ready (rs := [3]) (by kernel_rfl) (by simp) ?_; refine AllReadyH.cons rfl (fun K hK => ?_) AllReadyH.nil; (try simp only [List.getElem_toArray, List.getElem_cons_succ, List.getElem_cons_zero]); go_simp; go_at_call 32; refine (cb.out _).mono ?_; rintro e wn3 ⟨rfl, hbn3⟩; have hT3 : Below wt.heap.size wt wn3 := (by first | exact hT.trans (hbn3.mono (Nat.le_refl _)) | exact hT1.trans (hbn3.mono hT1.size)); (try (go_wp2_with fail)); refine hK.out _ _ (hout _ (by assumption)) (fun hHeld => ?_); clear hK K)
  try simp only [Act.put, List.getElem_toArray, List.getElem_cons_succ, List.getElem_cons_zero, List.setIfInBounds_toArray, List.set_cons_zero, List.set_cons_succ]
  (refine wpAnyH_take (i := 4) (v := ?_) rfl (by kernel_rfl) (by kernel_rfl) (by kernel_rfl) (fun _ _ _ h => h) (Or.inl ⟨by rfl, ?_⟩) (by assumption) ?_; rotate_left 1; (focus (intro wz hz; (try dsimp only at hz); (try simp only [List.getElem_toArray, List.getElem_cons_succ, List.getElem_cons_zero]); go_simp; try (with_reducible rfl); done)))
  try simp only [Act.put, List.getElem_toArray, List.getElem_cons_succ, List.getElem_cons_zero, List.setIfInBounds_toArray, List.set_cons_zero, List.set_cons_succ]
  (refine wpAnyH_take (i := 5) (v := ?_) rfl (by kernel_rfl) (by kernel_rfl) (by kernel_rfl) (fun _ _ _ h => h) (Or.inl ⟨by rfl, ?_⟩) (by assumption) ?_; rotate_left 1; (focus (intro wz hz; (try dsimp only at hz); (try simp only [List.getElem_toArray, List.getElem_cons_succ, List.getElem_cons_zero]); go_simp; try (with_reducible rfl); done)))
  try simp only [Act.put, List.getElem_toArray, List.getElem_cons_succ, List.getElem_cons_zero, List.setIfInBounds_toArray, List.set_cons_zero, List.set_cons_succ]
  refine wpAnyH_done (by kernel_rfl) ?_ _
  clear hHeld
  go_wp2
  go_ret
  exact ⟨rfl, below_call hT3 hB.size hB⟩
end Go.Proofs.YtngaklciclbofaaDoor
