/- Layer 14, the program's: slices.Clone and slices.DeleteFunc of entries; Clean. -/
import Derived.Test.YtpmabkegjdjodaaP14B
import Derived.Test.YtpmabkegjdjodaaKitCopy
import Derived.Test.YtpmabkegjdjodaaS14B
import Derived.Lib.LazyBuf
namespace Go.Proofs.Ytpmabkegjdjodaa
open Go.RowKit
set_option linter.unusedVariables false
set_option linter.unusedSimpArgs false

theorem bx2_far {W w1 : World} {n b : Nat} {x y : Int} (h : Bx2 W b x y) (hb : Below n W w1) (hn : b < n) : Bx2 w1 b x y :=
  ⟨(hb.cell (p := ⟨b, 0, none⟩) hn).trans h.1, (hb.cell (p := ⟨b, 1, none⟩) hn).trans h.2⟩
set_option maxRecDepth 100000 in
set_option maxHeartbeats 1000000 in
theorem clone14_any (v : Value) (L : List En) (w : World) (hv : IsR 3 enC w v L) (hl : L.length ≤ 1000000) :
    Calls Try.prog 28 #[v] w fun e w' => ∃ v', e = .returned v' ∧ OwnR 64 3 enC w' w.heap.size v' L ∧ Below w.heap.size w w' := by
  have HV := Lib.hid hv
  obtain ⟨p, cap, rfl, hn, hp⟩ := hv
  have hnil : ∀ W : World, (binOp .eql 29 (.slice p L.length cap) (.slice none 0 0)).run Try.prog W = .ok (.bool p.isNone) W := fun W => run_eql_slice_nil W _ _ _ _ _ Try.underlying29
  cases p with
  | none =>
    have hL : L = [] := by
      cases L with
      | nil => rfl
      | cons y t =>
        obtain ⟨b, off, hq, _⟩ := hp 0 (by simp)
        cases hq
    subst hL
    clear hp hn
    simp only [Option.isNone_none, List.length_nil] at hnil ⊢
    go_enter Try.func28, Try.ntmps28
    go_wp2
    go_ret
    exact ⟨_, rfl, OwnR.nil _ _ _ _ _, Below.refl _ _⟩
  | some ad =>
    clear hp hn
    simp only [Option.isNone_some] at hnil
    go_enter Try.func28, Try.ntmps28
    go_wp2_with (at_builtin; refine app_row lays_sen enC_len enC_one rfl _ _ rfl w.heap.size ([] : List En) L _ _ rfl (OwnR.made0 w w.heap.size (Nat.le_refl _)) rfl (HV.out.call (by (repeat (first | (with_reducible exact Below.refl _ _) | ((with_reducible refine below_alloc ?_ ?_ _); · (first | omega | (simp; done) | (simp; omega))) | ((with_reducible refine below_setCell ?_ ?_ _); · (first | omega | (simp; done) | (simp; omega))) | (with_reducible refine Below.drew ?_) | (with_reducible refine below_drewN ?_ _) | ((with_reducible refine below_call (by assumption) ?_ ?_); · (first | omega | (simp; done) | (simp; omega))))))) (by simp; omega) (by simp) ?_; intro v5 w5 ho5 hb5 _ _)
    go_ret
    exact ⟨_, rfl, by simpa using ho5, (below_alloc (Nat.le_refl _) (Below.refl _ _) _).trans hb5⟩
/-- three cells are laid over an entry's -/
theorem en_set (x : En) : ∀ (M : List En) (k : Nat), k < M.length → (((M.flatMap enC).set (k * 3) (.int .i64 x.1)).set (k * 3 + 1) (.int .i64 x.2.1)).set (k * 3 + 2) (.int .i64 x.2.2) = (M.set k x).flatMap enC
  | [], _, h => by cases h
  | m :: M, 0, _ => by
    rw [List.set_cons_zero, List.flatMap_cons, List.flatMap_cons]
    rfl
  | m :: M, k + 1, h => by
    have ih := en_set x M k (by simpa using h)
    rw [List.set_cons_succ, List.flatMap_cons, List.flatMap_cons, ← ih]
    simp only [show ∀ c, (k + 1) * 3 + c = k * 3 + c + 3 from fun c => by omega, show (k + 1) * 3 = k * 3 + 3 from by omega]
    rfl
theorem en_put {w : World} {B g n cap k : Nat} {M : List En} (x : En) (h : OwnR 64 3 enC w B (.slice (some ⟨g, 0, none⟩) n cap) M) (hn : n = M.length) (hk : k < M.length) :
    OwnR 64 3 enC (((w.setCell ⟨g, k * 3, none⟩ (.int .i64 x.1)).setCell ⟨g, k * 3 + 1, none⟩ (.int .i64 x.2.1)).setCell ⟨g, k * 3 + 2, none⟩ (.int .i64 x.2.2)) B (.slice (some ⟨g, 0, none⟩) n cap) (M.set k x) := by
  subst hn
  unfold OwnR at h ⊢
  rw [List.length_set, ← en_set x M k hk]
  exact (((h.stored _ (.int .i64 x.1)).1.stored _ (.int .i64 x.2.1)).1.stored _ (.int .i64 x.2.2)).1
/-- a row as slices.DeleteFunc goes over it: a of the first j are kept, what is from j on is as it was -/
structure Kept (L K : List En) (f : En → Bool) (a j : Nat) : Prop where
  len : K.length = L.length
  lt : a < j
  le : j ≤ L.length
  got : K.take a = (L.take j).filter f
  rest : K.drop j = L.drop j
theorem Kept.at {L K : List En} {f : En → Bool} {a j : Nat} (h : Kept L K f a j) (hj : j < L.length) (hk : j < K.length) : K[j] = L[j] := by
  have h1 := congrArg (fun l => l[0]?) h.rest
  simp only [List.getElem?_drop, Nat.add_zero] at h1
  rw [List.getElem?_eq_getElem hk, List.getElem?_eq_getElem hj] at h1
  exact Option.some.inj h1
theorem Kept.skip {L K : List En} {f : En → Bool} {a j : Nat} (h : Kept L K f a j) (hj : j < L.length) (hf : f L[j] = false) : Kept L K f a (j + 1) := by
  refine ⟨h.len, by have := h.lt; omega, hj, ?_, ?_⟩
  · rw [fil_next hj, if_neg (by rw [hf]; decide), List.append_nil]; exact h.got
  · have := congrArg (List.drop 1) h.rest
    simpa [List.drop_drop, Nat.add_comm] using this
theorem Kept.keep {L K : List En} {f : En → Bool} {a j : Nat} (h : Kept L K f a j) (hj : j < L.length) (hf : f L[j] = true) : Kept L (K.set a L[j]) f (a + 1) (j + 1) := by
  have hl := h.len
  have ha := h.lt
  refine ⟨by rw [List.length_set]; exact hl, by omega, hj, ?_, ?_⟩
  · rw [fil_next hj, if_pos hf, ← h.got, List.take_succ_eq_append_getElem (by rw [List.length_set]; omega), List.getElem_set_self, List.take_set_of_le (Nat.le_refl _)]
  · rw [List.drop_set_of_lt (by omega)]
    have := congrArg (List.drop 1) h.rest
    simpa [List.drop_drop, Nat.add_comm] using this
theorem Kept.start {L : List En} {p : En → Bool} {k : Nat} (hk : k < L.length) (h1 : p L[k] = true) (h2 : ∀ j (hj : j < L.length), j < k → p L[j] = false) : Kept L L (fun x => !p x) k (k + 1) := by
  refine ⟨rfl, Nat.lt_succ_self _, hk, ?_, rfl⟩
  rw [fil_next hk, if_neg (by rw [h1]; decide), List.append_nil, List.filter_eq_self.2]
  intro x hx
  obtain ⟨j, hj, rfl⟩ := List.mem_take_iff_getElem.1 hx
  rw [h2 j (by omega) (by omega)]
  rfl
theorem own_cell {w : World} {te : TypeId} {B g n cap : Nat} {M : List En} (h : OwnR te 3 enC w B (.slice (some ⟨g, 0, none⟩) n cap) M) (hn : n = M.length) {j : Nat} (hj : j < M.length * 3) : ∃ u, w.cell? ⟨g, j, none⟩ = some u := by
  subst hn
  have h' : w.ownsRow B te 3 (.slice (some ⟨g, 0, none⟩) M.length cap) M.length (M.flatMap enC) := h
  exact ⟨(M.flatMap enC)[j]'(by rw [flat_sz enC_len]; exact hj), by rw [h'.cellAt j hj]; exact List.getElem?_eq_getElem _⟩
theorem own_frozen {w : World} {te : TypeId} {B g n cap : Nat} {M : List En} (h : OwnR te 3 enC w B (.slice (some ⟨g, 0, none⟩) n cap) M) (hn : n = M.length) (j : Nat) : w.frozen? ⟨g, j, none⟩ = false := by
  subst hn
  exact World.ownsRow.frozenAt h j
end Go.Proofs.Ytpmabkegjdjodaa
