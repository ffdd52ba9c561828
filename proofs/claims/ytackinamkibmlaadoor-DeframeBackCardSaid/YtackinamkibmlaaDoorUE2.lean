/- Layer 2: whether a text has only characters, and no controls: the program's. -/
import Derived.Test.YtackinamkibmlaaDoorUE
namespace Go.Proofs.YtackinamkibmlaaDoor
open Go.RowKit Go.Shelf
open Go.Lib (byteCells)
set_option linter.unusedVariables false
set_option linter.unusedSimpArgs false
attribute [local go_sem] Oper.semAt_some

theorem boxed_keep {A B : World} {row : Option Nat} {b : Nat} {t : TypeId} {v : Value} (h : Boxed A b t v) (hg : A.grownBy B row) (hr : ∀ r, row = some r → ∃ o : Obj, A.heap[r]? = some o ∧ o.isCells = false) : Boxed B b t v :=
  h.kept hg (fun e => by obtain ⟨o, ho, hc⟩ := hr b e.symm; rw [show A.heap[b]? = _ from h] at ho; cases ho; cases hc)
theorem boxed_other {W : World} {b : Nat} {t : TypeId} {v : Value} (h : Boxed W b t v) {p : Addr} (hp : p.block ≠ b) (u : Value) : Boxed (W.setCell p u) b t v := by
  show (W.setCell p u).heap[b]? = _
  rw [show (W.setCell p u).heap[b]? = W.heap[b]? from by simp [World.setCell, Array.getElem?_modify, hp]]; exact h
theorem boxed_put {W : World} {b D : Nat} {t : TypeId} {v : Value} (h : Boxed W b t v) (hD : b ≠ D) (o : Obj) : Boxed (W.putObj D o) b t v := by
  show (W.putObj D o).heap[b]? = _
  rw [World.putObj_heap_other hD]; exact h

/-- each is a character -/
def okB (l : List UInt8) : Bool := (chs l).all fun y => decide (y.1.1 ≠ -1)
def okE (l : List UInt8) : Int := if okB l then 0 else 11
theorem okB_yes {l : List UInt8} (h : ∀ y ∈ chs l, y.1.1 ≠ -1) : okE l = 0 := by
  have : okB l = true := by unfold okB; rw [List.all_eq_true]; intro y hy; simpa using h y hy
  unfold okE; rw [if_pos this]
theorem okB_no {l : List UInt8} {pre : List Ch} (hp : pre <+: chs l) (h : ∃ y ∈ pre, y.1.1 = -1) : okE l = 11 := by
  obtain ⟨y, hy, he⟩ := h
  have : ¬ okB l = true := by
    unfold okB; rw [List.all_eq_true]; intro hh
    have := hh y (hp.subset hy)
    simp [he] at this
  unfold okE; rw [if_neg this]
def plB (l : List UInt8) : Bool := (chs l).all fun y => decide (y.1.1 ≠ -1) && !isCtB y.1.1
theorem plB_yes {l : List UInt8} (h : ∀ y ∈ chs l, y.1.1 ≠ -1 ∧ isCtB y.1.1 = false) : plB l = true := by
  unfold plB; rw [List.all_eq_true]; intro y hy
  have := h y hy
  simp [this.1, this.2]
theorem plB_no {l : List UInt8} {pre : List Ch} (hp : pre <+: chs l) (h : ∃ y ∈ pre, y.1.1 = -1 ∨ isCtB y.1.1 = true) : plB l = false := by
  obtain ⟨y, hy, he⟩ := h
  cases hb : plB l with
  | false => rfl
  | true =>
    unfold plB at hb; rw [List.all_eq_true] at hb
    have := hb y (hp.subset hy)
    rcases he with he | he <;> simp [he] at this
theorem mem_snoc_ne {pre : List Ch} {x : Ch} (h : ∀ y ∈ pre, y.1.1 ≠ -1) (hx : x.1.1 ≠ -1) : ∀ y ∈ pre ++ [x], y.1.1 ≠ -1 := by
  intro y hy
  rcases List.mem_append.1 hy with h1 | h1
  · exact h y h1
  · rw [List.mem_singleton.1 h1]; exact hx
theorem mem_snoc_pl {pre : List Ch} {x : Ch} (h : ∀ y ∈ pre, y.1.1 ≠ -1 ∧ isCtB y.1.1 = false) (hx : x.1.1 ≠ -1) (hx2 : isCtB x.1.1 = false) : ∀ y ∈ pre ++ [x], y.1.1 ≠ -1 ∧ isCtB y.1.1 = false := by
  intro y hy
  rcases List.mem_append.1 hy with h1 | h1
  · exact h y h1
  · rw [List.mem_singleton.1 h1]; exact ⟨hx, hx2⟩

set_option maxRecDepth 100000 in
set_option maxHeartbeats 2000000 in
theorem plain_any (s : ByteArray) (w : World) (hT : Tabs w) (hs : s.size ≤ 281474976710656) :
    Calls Tryd.prog 20 #[.string s] w fun e w' => e = .returned (.bool (plB s.data.toList)) ∧ Below w.heap.size w w' := by
  refine (callsIn_wide (n := 3)).1 ?_
  refine callsIn_of_wp_marks Tryd.func20 rfl trivial ?_ rfl
  simp only [Tryd.ntmps20, List.size_toArray, List.length_cons, List.length_nil, Nat.reduceAdd, Nat.reduceSub, Array.replicate_succ, Array.replicate_zero, List.push_toArray, List.append_toArray, List.nil_append, List.cons_append]
  gi_wp2_with (refine ⟨trivial, ?_⟩; gi_at_call 39; refine (callsIn_wide.2 (chars_any s _)).mono ?_; rintro e w' ⟨rfl, rfl⟩)
  have bR := Boxed.new w 4 (.bool false)
  have bS := Boxed.new (w.alloc (.cells #[.bool false] 4)) 9 (.string s)
  rw [World.size_alloc] at bS
  have hB0 : Below w.heap.size w ((w.alloc (.cells #[.bool false] 4)).alloc (.cells #[.string s] 9)) := ((Below.refl _ w).alloc (Nat.le_refl _) _).alloc (by simp) _
  refine wpIn_rangeFunc_ownF rfl (by omega) (gf := 60) (lb := #[.pointer (some ⟨w.heap.size + 1, 0, none⟩)]) rfl trivial (enters_of Tryd.func60 (by kernel_rfl) rfl)
    (chars_stops _ (by omega) (w.heap.size + 1) w.heap.size s w _ hT (Nat.le_refl _) hs hB0 (by simp; omega) (by simp) bS.cell) kp_t (kp_b (by simp) (by simp; omega)) (Below.refl _ _) (fun _ => rfl)
    (fun pre W => ((∀ y ∈ pre, y.1.1 ≠ -1 ∧ isCtB y.1.1 = false) ∧ Boxed W w.heap.size 4 (.bool false)) ∧ Below w.heap.size w W)
    (fun c pre W => (c = .ret ∧ (∃ y ∈ pre, y.1.1 = -1 ∨ isCtB y.1.1 = true) ∧ Boxed W w.heap.size 4 (.bool false)) ∧ Below w.heap.size w W)
    (OwnFrom.and (Own.from (fun s A B row hs hg hr => ⟨hs.1, boxed_keep hs.2 hg hr⟩) _) (ownFrom_below (Nat.le_refl _) (by simp; omega)))
    (fun c => OwnFrom.and (Own.from (fun s A B row hs hg hr => ⟨hs.1, hs.2.1, boxed_keep hs.2.2 hg hr⟩) _) (ownFrom_below (Nat.le_refl _) (by simp; omega)))
    ⟨⟨by simp, bR.alloc _⟩, hB0⟩
    (fun x => { tmps := #[.string s, undef, .pointer (some ⟨w.heap.size, 0, none⟩), .int .i64 x.1.1, .string s, .func (.func 60) #[] #[.pointer (some ⟨w.heap.size + 1, 0, none⟩)], .int .i64 x.1.1, .int .i64 (x.1.2 : Int), undef, undef, undef, undef, undef, undef], defers := [] }) ?assign ?body ?done ?stop
  case assign =>
    intro l x W K hK
    gi_wp2
    simpa [encC] using hK
  case body =>
    rintro l pre x W ⟨⟨hne, hb⟩, hB⟩ hlen
    have hc := hb.cell
    have hf := hb.frozen
    obtain ⟨c, hx⟩ : ∃ c, x.1.1 = c := ⟨_, rfl⟩
    rw [hx]
    by_cases hc1 : c = -1
    · have hcb : (c == -1) = true := by simp [hc1]
      have HX := Lib.hid (And.intro hx hc1)
      clear hx hc1
      gi_wp2
      refine ⟨trivial, ?_⟩
      gi_wp2
      exact ⟨KeepsOthers.setCell _ _ _, ⟨rfl, ⟨x, by simp, .inl (by rw [HX.out.1]; exact HX.out.2)⟩, hb.set _⟩, hB.setCell (p := ⟨w.heap.size, 0, none⟩) (Nat.le_refl _) _⟩
    · have hcb : (c == -1) = false := by simpa using hc1
      have HX := Lib.hid (And.intro hx hc1)
      clear hx hc1
      by_cases hct : isCtB c = true
      · gi_wp2_with (refine ⟨trivial, ?_⟩; gi_at_call 40; refine (CallsIn.inRound l (callsIn_wide.2 (control_any _ _))).mono ?_; rintro e w' ⟨rfl, rfl⟩)
        exact ⟨KeepsOthers.setCell _ _ _, ⟨rfl, ⟨x, by simp, .inr (by rw [HX.out.1]; exact hct)⟩, hb.set _⟩, hB.setCell (p := ⟨w.heap.size, 0, none⟩) (Nat.le_refl _) _⟩
      · have hct' : isCtB c = false := by simpa using hct
        clear hct
        gi_wp2_with (refine ⟨trivial, ?_⟩; gi_at_call 40; refine (CallsIn.inRound l (callsIn_wide.2 (control_any _ _))).mono ?_; rintro e w' ⟨rfl, rfl⟩)
        exact ⟨KeepsOthers.refl _, Kp.refl _ _ _, ⟨mem_snoc_pl hne (by rw [HX.out.1]; exact HX.out.2) (by rw [HX.out.1]; exact hct'), hb⟩, hB⟩
  case done =>
    rintro D ys W hD rfl ⟨⟨hne, hb⟩, hB⟩ hK
    have hc := hb.cell
    have hf := hb.frozen
    have hDb : w.heap.size ≠ D := by simp at hD; omega
    gi_wp2
    have hK' := (KeepsOthers.setCell W ⟨w.heap.size, 0, none⟩ (.bool true)).same D _ hK rfl
    refine ⟨by simp, .inl ⟨_, _, rfl, run_takeDeferred hK', ?_⟩⟩
    have hc5 := (boxed_put (hb.set (.bool true)) hDb (.deferred none)).cell
    refine ⟨.bool true, ?_, by rw [plB_yes hne], (hB.setCell (p := ⟨w.heap.size, 0, none⟩) (Nat.le_refl _) _).trans (belowK_b (w := w) (Nat.le_refl _) _ D _ _ (by simp at hD; omega) hK' rfl rfl)⟩
    simp [results, Tryd.f20, go_sem, hc5]
  case stop =>
    rintro D c pre W hD hpre ⟨⟨rfl, hin, hb⟩, hB⟩ hK
    have hDb : w.heap.size ≠ D := by simp at hD; omega
    gi_wp2
    refine ⟨by simp, .inl ⟨_, _, rfl, run_takeDeferred hK, ?_⟩⟩
    have hc5 := (boxed_put hb hDb (.deferred none)).cell
    refine ⟨.bool false, ?_, by rw [plB_no hpre hin], hB.trans (belowK_b (w := w) (Nat.le_refl _) W D _ _ (by simp at hD; omega) hK rfl rfl)⟩
    simp [results, Tryd.f20, go_sem, hc5]
end Go.Proofs.YtackinamkibmlaaDoor
