/- Layer 2: all characters of a text: the program's. -/
import Derived.Test.YtbabgcemkiakmaaDoorUE2
import Derived.Test.YtbabgcemkiakmaaDoorKitI
namespace Go.Proofs.YtbabgcemkiakmaaDoor
open Go.RowKit Go.Shelf
open Go.Lib (byteCells)
set_option linter.unusedVariables false
set_option linter.unusedSimpArgs false
attribute [local go_sem] Oper.semAt_some

def allL (l : List UInt8) : List Int := if okB l then (chs l).map fun y => y.1.1 else []
theorem allL_yes {l : List UInt8} (h : ∀ y ∈ chs l, y.1.1 ≠ -1) : allL l = (chs l).map fun y => y.1.1 := by
  have : okB l = true := by unfold okB; rw [List.all_eq_true]; intro y hy; simpa using h y hy
  unfold allL; rw [if_pos this]
theorem allL_no {l : List UInt8} {pre : List Ch} (hp : pre <+: chs l) (h : ∃ y ∈ pre, y.1.1 = -1) : allL l = [] := by
  have h1 := okB_no hp h
  unfold okE at h1
  unfold allL
  cases hb : okB l with
  | true => rw [hb] at h1; simp at h1
  | false => rfl
theorem boxed_app {W w1 : World} {n₀ b B : Nat} {t e : TypeId} {size k : Nat} {u v v' : Value} {xs : List Value} {tmp : Obj} (h : Boxed W b t u) (hte : t ≠ e) (hrow : W.ownsRow n₀ e size v k xs)
    (hgrow : (W.alloc tmp).grownBy w1 v.ownBlock) (hb : B ≠ b) : Boxed (w1.setCell ⟨B, 0, none⟩ v') b t u :=
  boxed_other ((h.alloc tmp).kept hgrow (h.not_row hte hrow)) hb _
theorem row_set {W : World} {n₀ b : Nat} {t e : TypeId} {size k : Nat} {u v : Value} {xs : List Value} (h : W.ownsRow n₀ e size v k xs) (hb : Boxed W b t u) (hte : t ≠ e) (u' : Value) : (W.setCell ⟨b, 0, none⟩ u').ownsRow n₀ e size v k xs :=
  h.kept (grownBy_setCell' W b u') (.inr (hb.not_row hte h).symm)
theorem row_shape {w : World} {B : Nat} {E : TypeId} {z k : Nat} {v : Value} {xs : List Value} (h : w.ownsRow B E z v k xs) : ∃ ao cap, v = .slice ao k cap := by
  rcases h.2 with ⟨hv, h0⟩ | ⟨g, cap, cur, hv, _⟩
  · exact ⟨none, 0, by rw [hv, h0]⟩
  · exact ⟨_, _, hv⟩

set_option maxRecDepth 100000 in
set_option maxHeartbeats 4000000 in
theorem all_any (s : ByteArray) (w : World) (hT : Tabs w) (hs : s.size ≤ 1099511627776) :
    Calls Tryd.prog 10 #[.string s] w (RetI w (allL s.data.toList) (okE s.data.toList)) := by
  obtain ⟨i0, hi, hz0, hz1, hz2⟩ := info_parts info_int
  refine (callsIn_wide (n := 3)).1 ?_
  refine callsIn_of_wp_marks Tryd.func10 rfl trivial ?_ rfl
  simp only [Tryd.ntmps10, List.size_toArray, List.length_cons, List.length_nil, Nat.reduceAdd, Nat.reduceSub, Array.replicate_succ, Array.replicate_zero, List.push_toArray, List.append_toArray, List.nil_append, List.cons_append]
  gi_wp2_with (refine ⟨trivial, ?_⟩; gi_at_call 29; refine (callsIn_wide.2 (chars_any s _)).mono ?_; rintro e w' ⟨rfl, rfl⟩)
  have b0 := Boxed.new w 25 (.slice none 0 0)
  have b1 := Boxed.new (w.alloc (.cells #[.slice none 0 0] 25)) 26 (.int .i64 0)
  have b2 := Boxed.new ((w.alloc (.cells #[.slice none 0 0] 25)).alloc (.cells #[.int .i64 0] 26)) 25 (.slice none 0 0)
  have b3 := Boxed.new (((w.alloc (.cells #[.slice none 0 0] 25)).alloc (.cells #[.int .i64 0] 26)).alloc (.cells #[.slice none 0 0] 25)) 9 (.string s)
  simp only [World.size_alloc] at b1 b2 b3
  have hB0 : Below w.heap.size w ((((w.alloc (.cells #[.slice none 0 0] 25)).alloc (.cells #[.int .i64 0] 26)).alloc (.cells #[.slice none 0 0] 25)).alloc (.cells #[.string s] 9)) := by (repeat (first | (with_reducible exact Below.refl _ _) | ((with_reducible refine below_alloc ?_ ?_ _); · (first | omega | (simp; done) | (simp; omega))) | ((with_reducible refine below_setCell ?_ ?_ _); · (first | omega | (simp; done) | (simp; omega))) | (with_reducible refine Below.drew ?_) | (with_reducible refine below_drewN ?_ _) | ((with_reducible refine below_call (by assumption) ?_ ?_); · (first | omega | (simp; done) | (simp; omega)))))
  refine wpIn_rangeFunc_ownF rfl (by omega) (gf := 37) (lb := #[.pointer (some ⟨w.heap.size + 1 + 1 + 1, 0, none⟩)]) rfl trivial (enters_of Tryd.func37 (by kernel_rfl) rfl)
    (chars_stops _ (by omega) (w.heap.size + 1 + 1 + 1) w.heap.size s w _ hT (Nat.le_refl _) (by omega) hB0 (by simp; omega) (by simp) b3.cell) kp_t (kp_b (by simp) (by simp; omega)) (Below.refl _ _) (fun _ => rfl)
    (fun pre W => ((∀ y ∈ pre, y.1.1 ≠ -1) ∧ Boxed W w.heap.size 25 (.slice none 0 0) ∧ Boxed W (w.heap.size + 1) 26 (.int .i64 0) ∧ (∃ v, Boxed W (w.heap.size + 1 + 1) 25 v ∧ W.ownsRow w.heap.size 3 1 v pre.length (pre.map fun y => Value.int .i64 y.1.1) ∧ True) ∧ Boxed W (w.heap.size + 1 + 1 + 1) 9 (.string s)) ∧ Below w.heap.size w W)
    (fun c pre W => (c = .ret ∧ (∃ y ∈ pre, y.1.1 = -1) ∧ Boxed W w.heap.size 25 (.slice none 0 0) ∧ Boxed W (w.heap.size + 1) 26 (.int .i64 11)) ∧ Below w.heap.size w W)
    (OwnFrom.and (Own.from (fun s A B row hs hg hr => ⟨hs.1, boxed_keep hs.2.1 hg hr, boxed_keep hs.2.2.1 hg hr, holdsRow_own w.heap.size (w.heap.size + 1 + 1) 25 3 1 (fun pre : List Ch => pre.length) (fun pre => pre.map fun y => Value.int .i64 y.1.1) (fun pre v => True) s A B row hs.2.2.2.1 hg hr, boxed_keep hs.2.2.2.2 hg hr⟩) _) (ownFrom_below (Nat.le_refl _) (by simp; omega)))
    (fun c => OwnFrom.and (Own.from (fun s A B row hs hg hr => ⟨hs.1, hs.2.1, boxed_keep hs.2.2.1 hg hr, boxed_keep hs.2.2.2 hg hr⟩) _) (ownFrom_below (Nat.le_refl _) (by simp; omega)))
    ⟨⟨by simp, ((b0.alloc _).alloc _).alloc _, (b1.alloc _).alloc _, ⟨_, b2.alloc _, World.ownsRow_nil _ _ _ _, trivial⟩, b3⟩, hB0⟩
    (fun x => { tmps := #[.string s, undef, .pointer (some ⟨w.heap.size, 0, none⟩), .pointer (some ⟨w.heap.size + 1, 0, none⟩), .pointer (some ⟨w.heap.size + 1 + 1, 0, none⟩), .int .i64 x.1.1, .string s, .func (.func 37) #[] #[.pointer (some ⟨w.heap.size + 1 + 1 + 1, 0, none⟩)], .int .i64 x.1.1, .int .i64 (x.1.2 : Int), undef, undef, undef, undef, undef, undef, undef], defers := [] }) ?assign ?body ?done ?stop
  case assign =>
    intro l x W K hK
    gi_wp2
    simpa [encC] using hK
  case body =>
    rintro l pre x W ⟨⟨hne, h0, h1, ⟨v, hv, hrow, _⟩, h3⟩, hB⟩ hlen
    have hc0 := h0.cell
    have hf0 := h0.frozen
    have hc1 := h1.cell
    have hf1 := h1.frozen
    have hcv := hv.cell
    have hsz := hB.size
    obtain ⟨c, hx⟩ : ∃ c, x.1.1 = c := ⟨_, rfl⟩
    rw [hx]
    by_cases hcc : c = -1
    · have hcb : (c == -1) = true := by simp [hcc]
      have HX := Lib.hid (And.intro hx hcc)
      clear hx hcc
      gi_wp2
      exact ⟨(KeepsOthers.setCell _ _ _).trans (KeepsOthers.setCell _ _ _), ⟨rfl, ⟨x, by simp, by rw [HX.out.1]; exact HX.out.2⟩, boxed_other (h0.set _) (by simp) _, (boxed_other h1 (by simp) _).set _⟩, (hB.setCell (p := ⟨w.heap.size, 0, none⟩) (Nat.le_refl _) _).setCell (p := ⟨w.heap.size + 1, 0, none⟩) (by simp) _⟩
    · have hcb : (c == -1) = false := by simpa using hcc
      have HX := Lib.hid (And.intro hx hcc)
      clear hx hcc
      gi_wp2_with (gi_at_builtin; refine wpListIn_append_own _ rfl _ _ 25 rfl w.heap.size 3 i0 (.int .i64 0) 1 8 Tryd.underlying25 hi hz0 hz1 hz2 rfl (by decide) _ _ _ rfl (hrow.alloc _) ⟨W.heap.size, 0, none⟩ 1 1 [.int .i64 c] rfl rfl (cell_one_new _ _ _) (by simp [Value.oneCell']) (by unfold maxLen; omega) (by omega) (by simp; omega) ?_; intro v' w1 hown' hgrow _; obtain ⟨g', cap', rfl⟩ := ownsRow_succ hown'; obtain ⟨hv1, hv2, hr2, hk2, hb2⟩ := hv.appended (by decide) hrow hB.size (by omega) hown' hgrow; have hcv1 := hv1.cell; have hfv1 := hv1.frozen)
      have k3 := boxed_app (v' := .slice (some ⟨g', 0, none⟩) (pre.length + 1) cap') h3 (by decide) hrow hgrow (B := w.heap.size + 1 + 1) (by simp)
      have k0 := boxed_app (v' := .slice (some ⟨g', 0, none⟩) (pre.length + 1) cap') h0 (by decide) hrow hgrow (B := w.heap.size + 1 + 1) (by omega)
      have k1 := boxed_app (v' := .slice (some ⟨g', 0, none⟩) (pre.length + 1) cap') h1 (by decide) hrow hgrow (B := w.heap.size + 1 + 1) (by simp)
      refine ⟨hk2, ⟨k3.trans (Eq.symm h3), hb2⟩, ⟨mem_snoc_ne hne (by rw [HX.out.1]; exact HX.out.2), k0, k1, ⟨_, hv2, ?_, trivial⟩, k3⟩, hB.trans hb2⟩
      rw [List.length_append, List.map_append, List.map_cons, List.map_nil, HX.out.1]
      exact hr2
  case done =>
    rintro D ys W hD rfl ⟨⟨hne, h0, h1, ⟨v, hv, hrow, _⟩, h3⟩, hB⟩ hK
    have hc0 := h0.cell
    have hf0 := h0.frozen
    have hc1 := h1.cell
    have hf1 := h1.frozen
    have hcv := hv.cell
    have hDb : w.heap.size + 1 + 1 + 1 + 1 ≤ D := by simpa using hD
    obtain ⟨ao, cap, hve⟩ := row_shape hrow
    subst hve
    gi_wp2
    have g1 := h0.set (.slice ao (chs s.data.toList).length cap)
    have g2 := boxed_other (p := ⟨w.heap.size + 1, 0, none⟩) g1 (by simp) (.int .i64 0)
    have g3 := (boxed_other (p := ⟨w.heap.size, 0, none⟩) h1 (by simp) (.slice ao (chs s.data.toList).length cap)).set (.int .i64 0)
    have hK1 := (KeepsOthers.setCell W ⟨w.heap.size, 0, none⟩ (.slice ao (chs s.data.toList).length cap)).same D _ hK rfl
    have hK2 := (KeepsOthers.setCell _ ⟨w.heap.size + 1, 0, none⟩ (.int .i64 0)).same D _ hK1 rfl
    refine ⟨by simp, .inl ⟨_, _, rfl, run_takeDeferred hK2, ?_⟩⟩
    have hc5 := (boxed_put g2 (by omega : w.heap.size ≠ D) (.deferred none)).cell
    have hc6 := (boxed_put g3 (by omega : w.heap.size + 1 ≠ D) (.deferred none)).cell
    have r1 := row_set hrow h0 (by decide) (.slice ao (chs s.data.toList).length cap)
    have r2 := row_set r1 (boxed_other (p := ⟨w.heap.size, 0, none⟩) h1 (by simp) (.slice ao (chs s.data.toList).length cap)) (by decide) (.int .i64 0)
    have hrow2 := ownsRow_putObj r2 (.deferred none) hK2 rfl
    refine ⟨.tuple #[.slice ao (chs s.data.toList).length cap, .int .i64 0], ?_, ?_⟩
    · simp [results, Tryd.f10, go_sem, hc5, hc6]
    · rw [okB_yes hne, allL_yes hne]
      refine RetI.mk ?_ (((hB.setCell (p := ⟨w.heap.size, 0, none⟩) (Nat.le_refl _) _).setCell (p := ⟨w.heap.size + 1, 0, none⟩) (by simp) _).trans (belowK_b (w := w) (Nat.le_refl _) _ D _ _ (by omega) hK2 rfl rfl))
      unfold OwnI
      rw [List.length_map, List.map_map]
      exact hrow2
  case stop =>
    rintro D c pre W hD hpre ⟨⟨rfl, hin, h0, h1⟩, hB⟩ hK
    have hDb : w.heap.size + 1 + 1 + 1 + 1 ≤ D := by simpa using hD
    gi_wp2
    refine ⟨by simp, .inl ⟨_, _, rfl, run_takeDeferred hK, ?_⟩⟩
    have hc5 := (boxed_put h0 (by omega : w.heap.size ≠ D) (.deferred none)).cell
    have hc6 := (boxed_put h1 (by omega : w.heap.size + 1 ≠ D) (.deferred none)).cell
    refine ⟨.tuple #[.slice none 0 0, .int .i64 11], ?_, ?_⟩
    · simp [results, Tryd.f10, go_sem, hc5, hc6]
    · rw [okB_no hpre hin, allL_no hpre hin]
      exact RetI.mk (OwnI.nil _ _) (hB.trans (belowK_b (w := w) (Nat.le_refl _) W D _ _ (by omega) hK rfl rfl))
end Go.Proofs.YtbabgcemkiakmaaDoor
