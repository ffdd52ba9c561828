/- Layer 11, the program's: all frames of bytes; how many there are. -/
import Derived.Test.YtbaclfpkaobggaaR11H
namespace Go.Proofs.Ytbaclfpkaobggaa
open Go.RowKit Go.Shelf
open Go.Lib (byteCells)
set_option linter.unusedVariables false
set_option linter.unusedSimpArgs false
attribute [local go_sem] Oper.semAt_some

theorem fsq_stop {l : List UInt8} {p : List Ef} {x : Ef} (h : p ++ [x] <+: fsq l) (hx : x.2 ≠ 0) : alE l = x.2 ∧ alL l = [] ∧ cnt l = p.length := by
  obtain ⟨r, hr⟩ := h
  have hg : ∀ k : Nat, (p ++ [x] ++ r : List Ef)[k]? = (fsq l : List Ef)[k]? := fun k => by rw [hr]
  have hk := hg p.length
  rw [List.append_assoc, List.getElem?_append_right (Nat.le_refl _), Nat.sub_self] at hk
  simp only [List.cons_append, List.getElem?_cons_zero] at hk
  unfold fsq at hk
  by_cases hlt : p.length < (pr l).1.length
  · rw [List.getElem?_append_left (by rw [List.length_map]; exact hlt), List.getElem?_map, List.getElem?_eq_getElem hlt] at hk
    simp only [Option.map_some, Option.some.injEq] at hk
    rw [hk] at hx
    exact absurd rfl hx
  · rw [List.getElem?_append_right (by rw [List.length_map]; omega), List.length_map] at hk
    by_cases hn : (pr l).2 = []
    · rw [if_pos hn] at hk
      simp at hk
    · rw [if_neg hn] at hk
      have he : p.length - (pr l).1.length = 0 := by
        cases hd : p.length - (pr l).1.length with
        | zero => rfl
        | succ d => rw [hd] at hk; simp at hk
      rw [he] at hk
      simp only [List.getElem?_cons_zero, Option.some.injEq] at hk
      have hA : alE l = x.2 := by
        unfold alE
        rw [if_neg hn, hk]
      refine ⟨hA, ?_, ?_⟩
      · unfold alL
        rw [hA, if_neg hx]
      · unfold cnt
        omega
theorem fsq_fin {l : List UInt8} (h : ∀ y ∈ fsq l, y.2 = 0) : alE l = 0 ∧ alL l = (fsq l).map (fun y => y.1) ∧ cnt l = (fsq l).length := by
  have hn : (pr l).2 = [] := by
    apply Decidable.byContradiction
    intro hn
    refine pr_end _ l (Nat.le_refl _) (h (gtS (pr l).2, gtE (pr l).2) ?_)
    unfold fsq
    rw [if_neg hn]
    simp
  have hA : alE l = 0 := if_pos hn
  have hf : fsq l = (pr l).1.map (fun s => (s, 0)) := by
    unfold fsq
    rw [if_pos hn, List.append_nil]
  refine ⟨hA, ?_, ?_⟩
  · unfold alL
    rw [if_pos hA, hf, List.map_map]
    exact (List.map_id _).symm
  · unfold cnt
    rw [hf, List.length_map]
theorem ownsRow_mono {w : World} {B B' : Nat} {e : TypeId} {z k : Nat} {v : Value} {xs : List Value} (h : w.ownsRow B e z v k xs) (hB : B' ≤ B) : w.ownsRow B' e z v k xs := by
  obtain ⟨h1, h2⟩ := h
  refine ⟨h1, ?_⟩
  rcases h2 with h2 | ⟨g, cap, cur, hv, hb, r⟩
  · exact .inl h2
  · exact .inr ⟨g, cap, cur, hv, Nat.le_trans hB hb, r⟩
theorem row_far {w : World} {B b : Nat} {e : TypeId} {z k : Nat} {v : Value} {xs : List Value} (h : w.ownsRow B e z v k xs) (hb : b < B) : some b ≠ v.ownBlock := by
  rcases h.2 with ⟨rfl, _⟩ | ⟨g, cap, cur, rfl, hg, _⟩
  · simp [Value.ownBlock]
  · intro e'
    obtain rfl : b = g := by simpa [Value.ownBlock] using e'
    omega
theorem all_zero {pre : List Ef} (h : ∀ y ∈ pre, y.2 = 0) {x : Ef} (hx : x.2 = 0) : ∀ y ∈ pre ++ [x], y.2 = 0 := by
  intro y hy
  rcases List.mem_append.1 hy with h1 | h1
  · exact h y h1
  · rw [List.mem_singleton.1 h1]; exact hx

set_option maxRecDepth 100000 in
set_option maxHeartbeats 4000000 in
theorem fcount_any (s : ByteArray) (w : World) (hs : s.size ≤ 1000000) : Calls Try.prog 13 #[.string s] w fun e w' => e = .returned (.int .i64 (cnt s.data.toList : Int)) ∧ Below w.heap.size w w' := by
  refine (callsIn_wide (n := 3)).1 ?_
  refine callsIn_of_wp_marks Try.func13 rfl trivial ?_ rfl
  simp only [Try.ntmps13, List.size_toArray, List.length_cons, List.length_nil, Nat.reduceAdd, Nat.reduceSub, Array.replicate_succ, Array.replicate_zero, List.push_toArray, List.append_toArray, List.nil_append, List.cons_append]
  gi_wp2_with (refine ⟨trivial, ?_⟩; gi_at_call 28; refine (callsIn_wide.2 (frames_any s _)).mono ?_; rintro e w' ⟨rfl, rfl⟩)
  have hc0 := cell_new w (.int .i64 0) 3
  have b0 := Boxed.new w 3 (.int .i64 0)
  have hb := cell_new (w.alloc (.cells #[.int .i64 0] 3)) (.string s) 9
  rw [World.size_alloc] at hb
  have hB0 : Below w.heap.size w ((w.alloc (.cells #[.int .i64 0] 3)).alloc (.cells #[.string s] 9)) := ((Below.refl _ w).alloc (Nat.le_refl _) _).alloc (by simp) _
  refine wpIn_rangeFunc_ownF rfl (by omega) (gf := 36) (lb := #[.pointer (some ⟨w.heap.size + 1, 0, none⟩)]) rfl trivial (enters_of Try.func36 (by kernel_rfl) rfl)
    (frames_stops _ (by omega) (w.heap.size + 1) w.heap.size s w _ (Nat.le_refl _) hs hB0 (by simp; omega) (by simp) hb.1) kp_t (kp_b (by simp) (by simp; omega)) (Below.refl _ _) (fun _ => rfl)
    (fun pre W => ((∀ y ∈ pre, y.2 = 0) ∧ Boxed W w.heap.size 3 (.int .i64 (pre.length : Int))) ∧ Below w.heap.size w W)
    (fun c pre W => (c = .exit 0 ∧ (∃ p x, pre = p ++ [x] ∧ x.2 ≠ 0 ∧ Boxed W w.heap.size 3 (.int .i64 (p.length : Int)))) ∧ Below w.heap.size w W)
    (OwnFrom.and (Own.from (fun s A B row hs hg hr => ⟨hs.1, boxed_keep hs.2 hg hr⟩) _) (ownFrom_below (Nat.le_refl _) (by simp; omega)))
    (fun c => OwnFrom.and (Own.from (fun s A B row hs hg hr => ⟨hs.1, by obtain ⟨_, p, x, h1, h2, h3⟩ := hs; exact ⟨p, x, h1, h2, boxed_keep h3 hg hr⟩⟩) _) (ownFrom_below (Nat.le_refl _) (by simp; omega)))
    ⟨⟨by simp, b0.alloc _⟩, hB0⟩
    (fun x => { tmps := #[.string s, undef, .int .i64 0, .pointer (some ⟨w.heap.size, 0, none⟩), undef, .int .i64 x.2, .string s, .func (.func 36) #[] #[.pointer (some ⟨w.heap.size + 1, 0, none⟩)], .string x.1, .int .i64 x.2, undef, undef, undef, undef, undef], defers := [] }) ?assign ?body ?done ?stop
  case assign =>
    intro l x W K hK
    gi_wp2
    simpa [encF] using hK
  case body =>
    rintro l pre x W ⟨⟨hne, hb⟩, hB⟩ hlen
    have hc := hb.cell
    have hf := hb.frozen
    have hl1 : (pre.length : Int) < 1000000 := by omega
    obtain ⟨c, hx⟩ : ∃ c, x.2 = c := ⟨_, rfl⟩
    rw [hx]
    by_cases hc1 : c = 0
    · have hcb : (c != 0) = false := by simp [hc1]
      have HX := Lib.hid (And.intro hx hc1)
      have hw : IntKind.i64.wrap ((pre.length : Int) + 1) = ((pre.length + 1 : Nat) : Int) := by rw [IntWalk.i64_in _ (by omega)]; omega
      clear hx hc1
      gi_wp2
      refine ⟨KeepsOthers.setCell _ _ _, kp_set (p := ⟨w.heap.size, 0, none⟩) (by simp) (Nat.le_refl _) _, ⟨all_zero hne (HX.out.1.trans HX.out.2), ?_⟩, hB.setCell (p := ⟨w.heap.size, 0, none⟩) (Nat.le_refl _) _⟩
      have := hb.set (.int .i64 ((pre.length + 1 : Nat) : Int))
      simpa using this
    · have hcb : (c != 0) = true := by simpa using hc1
      have HX := Lib.hid (And.intro hx hc1)
      clear hx hc1
      gi_wp2
      exact ⟨KeepsOthers.refl _, ⟨rfl, pre, x, rfl, by rw [HX.out.1]; exact HX.out.2, hb⟩, hB⟩
  case done =>
    rintro D ys W hD rfl ⟨⟨hne, hb⟩, hB⟩ hK
    obtain ⟨_, _, hcnt⟩ := fsq_fin hne
    have HC := Lib.hid hcnt
    have hc := hb.cell
    clear hcnt
    gi_wp2
    refine ⟨by simp, .inl ⟨_, _, rfl, run_takeDeferred hK, ?_⟩⟩
    exact ⟨_, results_tmp rfl _ _ _, by rw [HC.out]; rfl, hB.trans (belowK_b (w := w) (Nat.le_refl _) W D _ _ (by simp at hD; omega) hK rfl rfl)⟩
  case stop =>
    rintro D c pre W hD hpre ⟨⟨rfl, p, x, rfl, hx, hb⟩, hB⟩ hK
    obtain ⟨_, _, hcnt⟩ := fsq_stop hpre hx
    have HC := Lib.hid hcnt
    have hc := hb.cell
    clear hcnt hpre hx
    gi_wp2
    refine ⟨by simp, .inl ⟨_, _, rfl, run_takeDeferred hK, ?_⟩⟩
    exact ⟨_, results_tmp rfl _ _ _, by rw [HC.out]; rfl, hB.trans (belowK_b (w := w) (Nat.le_refl _) W D _ _ (by simp at hD; omega) hK rfl rfl)⟩
end Go.Proofs.Ytbaclfpkaobggaa
