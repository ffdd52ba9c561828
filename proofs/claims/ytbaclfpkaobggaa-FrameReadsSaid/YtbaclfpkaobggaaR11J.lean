/- Layer 11, the program's: all frames of bytes. -/
import Derived.Test.YtbaclfpkaobggaaR11I
namespace Go.Proofs.Ytbaclfpkaobggaa
open Go.RowKit Go.Shelf
open Go.Lib (byteCells)
set_option linter.unusedVariables false
set_option linter.unusedSimpArgs false
attribute [local go_sem] Oper.semAt_some

theorem box_far {W w1 : World} {n₀ b B : Nat} {t e : TypeId} {size k : Nat} {u v v' : Value} {xs : List Value} {tmp : Obj} (h : Boxed W b t u) (hlt : b < n₀) (hrow : W.ownsRow n₀ e size v k xs)
    (hgrow : (W.alloc tmp).grownBy w1 v.ownBlock) (hb : B ≠ b) : Boxed (w1.setCell ⟨B, 0, none⟩ v') b t u :=
  boxed_other ((h.alloc tmp).kept hgrow (row_far hrow hlt)) hb _
set_option maxRecDepth 100000 in
set_option maxHeartbeats 4000000 in
theorem fall_any (s : ByteArray) (w : World) (hs : s.size ≤ 1000000) : Calls Try.prog 10 #[.string s] w (RetS w (alL s.data.toList) (alE s.data.toList)) := by
  obtain ⟨i0, hi, hz0, hz1, hz2⟩ := info_parts info_str
  refine (callsIn_wide (n := 3)).1 ?_
  refine callsIn_of_wp_marks Try.func10 rfl trivial ?_ rfl
  simp only [Try.ntmps10, List.size_toArray, List.length_cons, List.length_nil, Nat.reduceAdd, Nat.reduceSub, Array.replicate_succ, Array.replicate_zero, List.push_toArray, List.append_toArray, List.nil_append, List.cons_append]
  gi_wp2_with (refine ⟨trivial, ?_⟩; gi_at_call 28; refine (callsIn_wide.2 (frames_any s _)).mono ?_; rintro e w' ⟨rfl, rfl⟩)
  have b0 := Boxed.new w 28 (.slice none 0 0)
  have b1 := Boxed.new (w.alloc (.cells #[.slice none 0 0] 28)) 23 (.int .i64 0)
  have b2 := Boxed.new ((w.alloc (.cells #[.slice none 0 0] 28)).alloc (.cells #[.int .i64 0] 23)) 28 (.slice none 0 0)
  have b3 := Boxed.new (((w.alloc (.cells #[.slice none 0 0] 28)).alloc (.cells #[.int .i64 0] 23)).alloc (.cells #[.slice none 0 0] 28)) 9 (.string s)
  simp only [World.size_alloc] at b1 b2 b3
  have hB0 : Below w.heap.size w ((((w.alloc (.cells #[.slice none 0 0] 28)).alloc (.cells #[.int .i64 0] 23)).alloc (.cells #[.slice none 0 0] 28)).alloc (.cells #[.string s] 9)) := by (repeat (first | (with_reducible exact Below.refl _ _) | ((with_reducible refine below_alloc ?_ ?_ _); · (first | omega | (simp; done) | (simp; omega))) | ((with_reducible refine below_setCell ?_ ?_ _); · (first | omega | (simp; done) | (simp; omega))) | (with_reducible refine Below.drew ?_) | (with_reducible refine below_drewN ?_ _) | ((with_reducible refine below_call (by assumption) ?_ ?_); · (first | omega | (simp; done) | (simp; omega)))))
  refine wpIn_rangeFunc_ownF rfl (by omega) (gf := 36) (lb := #[.pointer (some ⟨w.heap.size + 1 + 1 + 1, 0, none⟩)]) rfl trivial (enters_of Try.func36 (by kernel_rfl) rfl)
    (frames_stops _ (by omega) (w.heap.size + 1 + 1 + 1) w.heap.size s w _ (Nat.le_refl _) hs hB0 (by simp; omega) (by simp) b3.cell) kp_t (kp_b (by simp) (by simp; omega)) (Below.refl _ _) (fun _ => rfl)
    (fun pre W => ((∀ y ∈ pre, y.2 = 0) ∧ Boxed W w.heap.size 28 (.slice none 0 0) ∧ Boxed W (w.heap.size + 1) 23 (.int .i64 0) ∧ (∃ v, Boxed W (w.heap.size + 1 + 1) 28 v ∧ W.ownsRow (w.heap.size + 1 + 1 + 1 + 1) 9 1 v pre.length (pre.map fun y => Value.string y.1) ∧ True) ∧ Boxed W (w.heap.size + 1 + 1 + 1) 9 (.string s)) ∧ w.heap.size + 1 + 1 + 1 + 1 ≤ W.heap.size ∧ Below w.heap.size w W)
    (fun c pre W => (c = .ret ∧ (∃ p x, pre = p ++ [x] ∧ x.2 ≠ 0 ∧ Boxed W w.heap.size 28 (.slice none 0 0) ∧ Boxed W (w.heap.size + 1) 23 (.int .i64 x.2))) ∧ Below w.heap.size w W)
    (OwnFrom.and (Own.from (fun s A B row hs hg hr => ⟨hs.1, boxed_keep hs.2.1 hg hr, boxed_keep hs.2.2.1 hg hr, holdsRow_own (w.heap.size + 1 + 1 + 1 + 1) (w.heap.size + 1 + 1) 28 9 1 (fun pre : List Ef => pre.length) (fun pre => pre.map fun y => Value.string y.1) (fun pre v => True) s A B row hs.2.2.2.1 hg hr, boxed_keep hs.2.2.2.2 hg hr⟩) _) (OwnFrom.and (fun s A B row hs hg hr => Nat.le_trans hs hg.size) (ownFrom_below (Nat.le_refl _) (by simp; omega))))
    (fun c => OwnFrom.and (Own.from (fun s A B row hs hg hr => ⟨hs.1, by obtain ⟨_, p, x, h1, h2, h3, h4⟩ := hs; exact ⟨p, x, h1, h2, boxed_keep h3 hg hr, boxed_keep h4 hg hr⟩⟩) _) (ownFrom_below (Nat.le_refl _) (by simp; omega)))
    ⟨⟨by simp, ((b0.alloc _).alloc _).alloc _, (b1.alloc _).alloc _, ⟨_, b2.alloc _, World.ownsRow_nil _ _ _ _, trivial⟩, b3⟩, by simp, hB0⟩
    (fun x => { tmps := #[.string s, undef, .pointer (some ⟨w.heap.size, 0, none⟩), .pointer (some ⟨w.heap.size + 1, 0, none⟩), .pointer (some ⟨w.heap.size + 1 + 1, 0, none⟩), .string x.1, .int .i64 x.2, .string s, .func (.func 36) #[] #[.pointer (some ⟨w.heap.size + 1 + 1 + 1, 0, none⟩)], .string x.1, .int .i64 x.2, undef, undef, undef, undef, undef, undef, undef, undef], defers := [] }) ?assign ?body ?done ?stop
  case assign =>
    intro l x W K hK
    gi_wp2
    simpa [encF] using hK
  case body =>
    rintro l pre x W ⟨⟨hne, h0, h1, ⟨v, hv, hrow, _⟩, h3⟩, hsz4, hB⟩ hlen
    have hc0 := h0.cell
    have hf0 := h0.frozen
    have hc1 := h1.cell
    have hf1 := h1.frozen
    have hcv := hv.cell
    have hsz := hB.size
    obtain ⟨c, hx⟩ : ∃ c, x.2 = c := ⟨_, rfl⟩
    rw [hx]
    by_cases hcc : c = 0
    · have hcb : (c != 0) = false := by simp [hcc]
      have HX := Lib.hid (And.intro hx hcc)
      clear hx hcc
      gi_wp2_with (gi_at_builtin; refine wpListIn_append_own _ rfl _ _ 28 rfl (w.heap.size + 1 + 1 + 1 + 1) 9 i0 (.string ⟨#[]⟩) 1 16 Try.underlying28 hi hz0 hz1 hz2 rfl (by decide) _ _ _ rfl (hrow.alloc _) ⟨W.heap.size, 0, none⟩ 1 1 [.string x.1] rfl rfl (cell_one_new _ _ _) (by simp [Value.oneCell']) (by unfold maxLen; omega) (by omega) (by simp; omega) ?_; intro v' w1 hown' hgrow _; obtain ⟨g', cap', rfl⟩ := ownsRow_succ hown'; obtain ⟨hv1, hv2, hr2, hk2, hb2⟩ := hv.appended (by decide) (ownsRow_mono hrow (by omega : w.heap.size ≤ _)) hB.size (by omega) (ownsRow_mono hown' (by omega : w.heap.size ≤ _)) hgrow; have hr4 := hown'.kept (grownBy_setCell' w1 (w.heap.size + 1 + 1) (.slice (some ⟨g', 0, none⟩) (pre.length + 1) cap')) (.inr (hv1.not_row (by decide) hown').symm); have hcv1 := hv1.cell; have hfv1 := hv1.frozen)
      have k3 := box_far (v' := .slice (some ⟨g', 0, none⟩) (pre.length + 1) cap') h3 (by omega) hrow hgrow (B := w.heap.size + 1 + 1) (by simp)
      have k0 := box_far (v' := .slice (some ⟨g', 0, none⟩) (pre.length + 1) cap') h0 (by omega) hrow hgrow (B := w.heap.size + 1 + 1) (by omega)
      have k1 := box_far (v' := .slice (some ⟨g', 0, none⟩) (pre.length + 1) cap') h1 (by omega) hrow hgrow (B := w.heap.size + 1 + 1) (by simp)
      refine ⟨hk2, ⟨k3.trans (Eq.symm h3), hb2⟩, ⟨all_zero hne (HX.out.1.trans HX.out.2), k0, k1, ⟨_, hv2, ?_, trivial⟩, k3⟩, Nat.le_trans hsz4 hb2.size, hB.trans hb2⟩
      rw [List.length_append, List.map_append, List.map_cons, List.map_nil]
      exact hr4
    · have hcb : (c != 0) = true := by simpa using hcc
      have HX := Lib.hid (And.intro hx hcc)
      clear hx hcc
      gi_wp2
      exact ⟨(KeepsOthers.setCell _ _ _).trans (KeepsOthers.setCell _ _ _), ⟨rfl, pre, x, rfl, by rw [HX.out.1]; exact HX.out.2, boxed_other (h0.set _) (by simp) _, by rw [HX.out.1]; exact (boxed_other h1 (by simp) _).set _⟩, (hB.setCell (p := ⟨w.heap.size, 0, none⟩) (Nat.le_refl _) _).setCell (p := ⟨w.heap.size + 1, 0, none⟩) (by simp) _⟩
  case done =>
    rintro D ys W hD rfl ⟨⟨hne, h0, h1, ⟨v, hv, hrow, _⟩, h3⟩, hsz4, hB⟩ hK
    obtain ⟨hE, hL, _⟩ := fsq_fin hne
    have HE := Lib.hid hE
    have HL := Lib.hid hL
    clear hE hL
    have hc0 := h0.cell
    have hf0 := h0.frozen
    have hc1 := h1.cell
    have hf1 := h1.frozen
    have hcv := hv.cell
    have hDb : w.heap.size + 1 + 1 + 1 + 1 ≤ D := by simpa using hD
    obtain ⟨ao, cap, hve⟩ := row_shape hrow
    subst hve
    gi_wp2
    have g1 := h0.set (.slice ao (fsq s.data.toList).length cap)
    have g2 := boxed_other (p := ⟨w.heap.size + 1, 0, none⟩) g1 (by simp) (.int .i64 0)
    have g3 := (boxed_other (p := ⟨w.heap.size, 0, none⟩) h1 (by simp) (.slice ao (fsq s.data.toList).length cap)).set (.int .i64 0)
    have hK1 := (KeepsOthers.setCell W ⟨w.heap.size, 0, none⟩ (.slice ao (fsq s.data.toList).length cap)).same D _ hK rfl
    have hK2 := (KeepsOthers.setCell _ ⟨w.heap.size + 1, 0, none⟩ (.int .i64 0)).same D _ hK1 rfl
    refine ⟨by simp, .inl ⟨_, _, rfl, run_takeDeferred hK2, ?_⟩⟩
    have hc5 := (boxed_put g2 (by omega : w.heap.size ≠ D) (.deferred none)).cell
    have hc6 := (boxed_put g3 (by omega : w.heap.size + 1 ≠ D) (.deferred none)).cell
    have r1 := row_set hrow h0 (by decide) (.slice ao (fsq s.data.toList).length cap)
    have r2 := row_set r1 (boxed_other (p := ⟨w.heap.size, 0, none⟩) h1 (by simp) (.slice ao (fsq s.data.toList).length cap)) (by decide) (.int .i64 0)
    have hrow2 := ownsRow_mono (ownsRow_putObj r2 (.deferred none) hK2 rfl) (by omega : w.heap.size ≤ _)
    refine ⟨.tuple #[.slice ao (fsq s.data.toList).length cap, .int .i64 0], ?_, ?_⟩
    · simp [results, Try.f10, go_sem, hc5, hc6]
    · rw [HE.out, HL.out]
      refine RetS.mk ?_ (((hB.setCell (p := ⟨w.heap.size, 0, none⟩) (Nat.le_refl _) _).setCell (p := ⟨w.heap.size + 1, 0, none⟩) (by simp) _).trans (belowK_b (w := w) (Nat.le_refl _) _ D _ _ (by omega) hK2 rfl rfl))
      unfold OwnS
      rw [List.length_map, List.map_map]
      exact hrow2
  case stop =>
    rintro D c pre W hD hpre ⟨⟨rfl, p, x, rfl, hx, h0, h1⟩, hB⟩ hK
    obtain ⟨hE, hL, _⟩ := fsq_stop hpre hx
    have HE := Lib.hid hE
    have HL := Lib.hid hL
    clear hE hL hpre hx
    have hDb : w.heap.size + 1 + 1 + 1 + 1 ≤ D := by simpa using hD
    gi_wp2
    refine ⟨by simp, .inl ⟨_, _, rfl, run_takeDeferred hK, ?_⟩⟩
    have hc5 := (boxed_put h0 (by omega : w.heap.size ≠ D) (.deferred none)).cell
    have hc6 := (boxed_put h1 (by omega : w.heap.size + 1 ≠ D) (.deferred none)).cell
    refine ⟨.tuple #[.slice none 0 0, .int .i64 x.2], ?_, ?_⟩
    · simp [results, Try.f10, go_sem, hc5, hc6]
    · rw [HE.out, HL.out]
      exact RetS.mk (OwnS.nil _ _) (hB.trans (belowK_b (w := w) (Nat.le_refl _) W D _ _ (by omega) hK rfl rfl))
end Go.Proofs.Ytbaclfpkaobggaa
