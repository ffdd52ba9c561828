/- Layer 2: a beginning of whole characters: the program's. -/
import Derived.Test.YtbabgcemkiakmaaDoorUE2
namespace Go.Proofs.YtbabgcemkiakmaaDoor
open Go.RowKit Go.Shelf
open Go.Lib (byteCells)
set_option linter.unusedVariables false
set_option linter.unusedSimpArgs false
attribute [local go_sem] Oper.semAt_some

def sumK : List Ch → Nat
  | [] => 0
  | x :: r => x.1.2 + sumK r
/-- how many bytes of these fit, e ahead of them -/
def cutN : List Ch → Int → Nat → Nat
  | [], _, e => e
  | x :: r, m, e => if m < (e : Int) + x.1.2 then e else cutN r m (e + x.1.2)
theorem sumK_app (a b : List Ch) : sumK (a ++ b) = sumK a + sumK b := by
  induction a with
  | nil => simp [sumK]
  | cons x r ih => simp only [List.cons_append, sumK, ih]; omega
theorem sumK_le (a : List Ch) : sumK a ≤ 4 * a.length := by
  induction a with
  | nil => simp [sumK]
  | cons x r ih => have := x.2.2.2; simp only [sumK, List.length_cons]; omega
theorem sumK_chs (l : List UInt8) : sumK (chs l) = l.length := by
  obtain ⟨n, hn⟩ : ∃ n, n = l.length := ⟨_, rfl⟩
  induction n using Nat.strongRecOn generalizing l with
  | _ n ih =>
    by_cases h : l = []
    · subst h; rfl
    · have hp := nxtK_pos l h
      rw [chs_cons l h]
      have := ih (l.drop (nxtK l)).length (by rw [List.length_drop]; omega) _ rfl
      rw [List.length_drop] at this
      show nxtK l + _ = _
      omega
theorem cutN_le (a : List Ch) (m : Int) : ∀ e, cutN a m e ≤ e + sumK a := by
  induction a with
  | nil => intro e; simp [cutN]
  | cons x r ih =>
    intro e
    simp only [cutN, sumK]
    split
    · omega
    · have := ih (e + x.1.2); omega
theorem cutN_chs (l : List UInt8) (m : Int) : cutN (chs l) m 0 ≤ l.length := by
  have := cutN_le (chs l) m 0
  rw [sumK_chs] at this; omega
/-- all of these have fitted -/
def Fits (pre : List Ch) (m : Int) : Prop := ∀ rest, cutN (pre ++ rest) m 0 = cutN rest m (sumK pre)
theorem Fits.nil (m : Int) : Fits [] m := fun rest => rfl
theorem Fits.snoc {pre : List Ch} {m : Int} (h : Fits pre m) {x : Ch} (hx : ¬ m < (sumK pre : Int) + x.1.2) : Fits (pre ++ [x]) m := by
  intro rest
  rw [List.append_assoc, h, sumK_app]
  show cutN (x :: rest) m _ = _
  simp only [cutN, if_neg hx, sumK, Nat.add_zero]
theorem Fits.stop {pre : List Ch} {m : Int} (h : Fits pre m) {x : Ch} (hx : m < (sumK pre : Int) + x.1.2) (rest : List Ch) : cutN (pre ++ [x] ++ rest) m 0 = sumK pre := by
  rw [List.append_assoc, h]
  show cutN (x :: rest) m _ = _
  simp only [cutN, if_pos hx]
theorem Fits.all {l : List UInt8} {m : Int} (h : Fits (chs l) m) : cutN (chs l) m 0 = sumK (chs l) := by
  have := h []
  rw [List.append_nil] at this
  exact this

set_option maxRecDepth 100000 in
set_option maxHeartbeats 4000000 in
theorem cut_any (s : ByteArray) (m : Int) (w : World) (hT : Tabs w) (hs : s.size ≤ 1099511627776) :
    Calls Tryd.prog 17 #[.string s, .int .i64 m] w fun e w' => e = .returned (.string (s.extract 0 (cutN (chs s.data.toList) m 0))) ∧ Below w.heap.size w w' := by
  refine (callsIn_wide (n := 3)).1 ?_
  refine callsIn_of_wp_marks Tryd.func17 rfl trivial ?_ rfl
  simp only [Tryd.ntmps17, List.size_toArray, List.length_cons, List.length_nil, Nat.reduceAdd, Nat.reduceSub, Array.replicate_succ, Array.replicate_zero, List.push_toArray, List.append_toArray, List.nil_append, List.cons_append]
  gi_wp2_with (refine ⟨trivial, ?_⟩; gi_at_call 29; refine (callsIn_wide.2 (chars_any s _)).mono ?_; rintro e w' ⟨rfl, rfl⟩)
  have b0 := Boxed.new w 3 (.int .i64 m)
  have b1 := Boxed.new (w.alloc (.cells #[.int .i64 m] 3)) 3 (.int .i64 0)
  have b2 := Boxed.new ((w.alloc (.cells #[.int .i64 m] 3)).alloc (.cells #[.int .i64 0] 3)) 9 (.string s)
  simp only [World.size_alloc] at b1 b2
  have hB0 : Below w.heap.size w (((w.alloc (.cells #[.int .i64 m] 3)).alloc (.cells #[.int .i64 0] 3)).alloc (.cells #[.string s] 9)) := by (repeat (first | (with_reducible exact Below.refl _ _) | ((with_reducible refine below_alloc ?_ ?_ _); · (first | omega | (simp; done) | (simp; omega))) | ((with_reducible refine below_setCell ?_ ?_ _); · (first | omega | (simp; done) | (simp; omega))) | (with_reducible refine Below.drew ?_) | (with_reducible refine below_drewN ?_ _) | ((with_reducible refine below_call (by assumption) ?_ ?_); · (first | omega | (simp; done) | (simp; omega)))))
  refine wpIn_rangeFunc_ownF rfl (by omega) (gf := 37) (lb := #[.pointer (some ⟨w.heap.size + 1 + 1, 0, none⟩)]) rfl trivial (enters_of Tryd.func37 (by kernel_rfl) rfl)
    (chars_stops _ (by omega) (w.heap.size + 1 + 1) w.heap.size s w _ hT (Nat.le_refl _) (by omega) hB0 (by simp; omega) (by simp) b2.cell) kp_t (kp_b (by simp) (by simp; omega)) (Below.refl _ _) (fun _ => rfl)
    (fun pre W => (Fits pre m ∧ Boxed W w.heap.size 3 (.int .i64 m) ∧ Boxed W (w.heap.size + 1) 3 (.int .i64 (sumK pre : Int))) ∧ Below w.heap.size w W)
    (fun c pre W => (c = .exit 0 ∧ (∃ e : Nat, (∀ rest, cutN (pre ++ rest) m 0 = e) ∧ Boxed W (w.heap.size + 1) 3 (.int .i64 (e : Int)))) ∧ Below w.heap.size w W)
    (OwnFrom.and (Own.from (fun s A B row hs hg hr => ⟨hs.1, boxed_keep hs.2.1 hg hr, boxed_keep hs.2.2 hg hr⟩) _) (ownFrom_below (Nat.le_refl _) (by simp; omega)))
    (fun c => OwnFrom.and (Own.from (fun s A B row hs hg hr => by obtain ⟨h1, e, h2, h3⟩ := hs; exact ⟨h1, e, h2, boxed_keep h3 hg hr⟩) _) (ownFrom_below (Nat.le_refl _) (by simp; omega)))
    ⟨⟨Fits.nil _, (b0.alloc _).alloc _, b1.alloc _⟩, hB0⟩
    (fun x => { tmps := #[.string s, .int .i64 m, undef, .pointer (some ⟨w.heap.size, 0, none⟩), .string ⟨#[]⟩, .pointer (some ⟨w.heap.size + 1, 0, none⟩), undef, .int .i64 (x.1.2 : Int), .string s, .func (.func 37) #[] #[.pointer (some ⟨w.heap.size + 1 + 1, 0, none⟩)], .int .i64 x.1.1, .int .i64 (x.1.2 : Int), undef, undef, undef, undef, undef, undef, undef, undef, undef, undef, undef, undef], defers := [] }) ?assign ?body ?done ?stop
  case assign =>
    intro l x W K hK
    gi_wp2
    simpa [encC] using hK
  case body =>
    rintro l pre x W ⟨⟨hfit, h0, h1⟩, hB⟩ hlen
    have hc0 := h0.cell
    have hc1 := h1.cell
    have hf1 := h1.frozen
    have hsum := sumK_le pre
    have hx4 := x.2.2.2
    obtain ⟨e, he⟩ : ∃ e, sumK pre = e := ⟨_, rfl⟩
    obtain ⟨k, hk⟩ : ∃ k, x.1.2 = k := ⟨_, rfl⟩
    rw [he] at hc1 hsum
    rw [hk] at hx4
    have he1 : (e : Int) ≤ 4398046511104 := by omega
    have hk1 : (k : Int) ≤ 4 := by omega
    rw [hk]
    have HE := Lib.hid (And.intro he hk)
    clear he hk
    by_cases hc : m < (e : Int) + k
    · gi_wp2
      refine ⟨KeepsOthers.refl _, ⟨rfl, sumK pre, fun rest => hfit.stop (by rw [HE.out.1, HE.out.2]; exact hc) rest, h1⟩, hB⟩
    · have hc' : (e : Int) + k ≤ m := by omega
      gi_wp2
      refine ⟨KeepsOthers.setCell _ _ _, kp_set (p := ⟨w.heap.size + 1, 0, none⟩) (by simp) (by simp) _, ⟨hfit.snoc (by rw [HE.out.1, HE.out.2]; omega), boxed_other h0 (by simp) _, ?_⟩, hB.setCell (p := ⟨w.heap.size + 1, 0, none⟩) (by simp) _⟩
      rw [sumK_app, HE.out.1]
      show Boxed _ _ _ (.int .i64 ((e + (x.1.2 + 0) : Nat) : Int))
      rw [HE.out.2]
      exact h1.set _
  case done =>
    rintro D ys W hD rfl ⟨⟨hfit, h0, h1⟩, hB⟩ hK
    have hall := hfit.all
    rw [← hall] at h1
    have hle := cutN_chs s.data.toList m
    rw [← sz_list] at hle
    obtain ⟨q, hq⟩ : ∃ q, cutN (chs s.data.toList) m 0 = q := ⟨_, rfl⟩
    rw [hq] at h1 hle
    have HQ := Lib.hid hq
    clear hq hall
    have hc1 := h1.cell
    have hle' : (q : Int) ≤ s.size := by omega
    have hcl := fun W => clone_any (s.extract 0 q) W (by rw [ByteArray.size_extract]; omega)
    gi_wp2_with (refine ⟨trivial, ?_⟩; gi_at_call 30; refine (callsIn_wide.2 (hcl _)).mono ?_; rintro e w1 ⟨rfl, hb1⟩)
    have hK1 : w1.heap[D]? = some (.deferred (some [])) := (hb1.block D (Array.getElem?_eq_some_iff.1 hK).1).trans hK
    refine ⟨by simp, .inl ⟨_, _, rfl, run_takeDeferred hK1, ?_⟩⟩
    exact ⟨_, results_tmp rfl _ _ _, by rw [HQ.out]; rfl, (hB.trans (hb1.mono hB.size)).trans (belowK_b (w := w) (Nat.le_refl _) w1 D _ _ (by simp at hD; omega) hK1 rfl rfl)⟩
  case stop =>
    rintro D c pre W hD hpre ⟨⟨rfl, e, hcut, h1⟩, hB⟩ hK
    obtain ⟨rest, hrest⟩ := hpre
    have hq := hcut rest
    rw [hrest] at hq
    have hle := cutN_chs s.data.toList m
    rw [← sz_list, hq] at hle
    have HQ := Lib.hid hq
    clear hq hcut hrest
    have hc1 := h1.cell
    have hle' : (e : Int) ≤ s.size := by omega
    have hcl := fun W => clone_any (s.extract 0 e) W (by rw [ByteArray.size_extract]; omega)
    gi_wp2_with (refine ⟨trivial, ?_⟩; gi_at_call 30; refine (callsIn_wide.2 (hcl _)).mono ?_; rintro e' w1 ⟨rfl, hb1⟩)
    have hK1 : w1.heap[D]? = some (.deferred (some [])) := (hb1.block D (Array.getElem?_eq_some_iff.1 hK).1).trans hK
    refine ⟨by simp, .inl ⟨_, _, rfl, run_takeDeferred hK1, ?_⟩⟩
    exact ⟨_, results_tmp rfl _ _ _, by rw [HQ.out]; rfl, (hB.trans (hb1.mono hB.size)).trans (belowK_b (w := w) (Nat.le_refl _) w1 D _ _ (by simp at hD; omega) hK1 rfl rfl)⟩
end Go.Proofs.YtbabgcemkiakmaaDoor
