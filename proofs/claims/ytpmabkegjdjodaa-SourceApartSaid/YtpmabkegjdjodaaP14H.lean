/- Layer 14, the program's: Take. -/
import Derived.Test.YtpmabkegjdjodaaP14F
import Derived.Test.YtpmabkegjdjodaaP14G
import Derived.Test.YtpmabkegjdjodaaS14K
import Derived.Deep.DeepCutAuto
namespace Go.Proofs.Ytpmabkegjdjodaa
open Go.RowKit
set_option linter.unusedVariables false
set_option linter.unusedSimpArgs false

/-- two cells are laid over an entry's bucket -/
theorem en_set2 (x : Int × Int) : ∀ (M : List En) (k : Nat) (h : k < M.length), ((M.flatMap enC).set (k * 3 + 1) (.int .i64 x.1)).set (k * 3 + 2) (.int .i64 x.2) = (M.set k (M[k].1, x)).flatMap enC
  | [], _, h => by cases h
  | m :: M, 0, _ => by
    rw [List.set_cons_zero, List.flatMap_cons, List.flatMap_cons]
    rfl
  | m :: M, k + 1, h => by
    have ih := en_set2 x M k (by simpa using h)
    simp only [List.getElem_cons_succ]
    rw [List.set_cons_succ, List.flatMap_cons, List.flatMap_cons, ← ih]
    simp only [show ∀ c, (k + 1) * 3 + c = k * 3 + c + 3 from fun c => by omega]
    rfl
theorem en_put2 {w : World} {B g n cap k : Nat} {M : List En} (x : Int × Int) (h : OwnR 64 3 enC w B (.slice (some ⟨g, 0, none⟩) n cap) M) (hn : n = M.length) (hk : k < M.length) :
    OwnR 64 3 enC ((w.setCell ⟨g, k * 3 + 1, none⟩ (.int .i64 x.1)).setCell ⟨g, k * 3 + 2, none⟩ (.int .i64 x.2)) B (.slice (some ⟨g, 0, none⟩) n cap) (M.set k (M[k].1, x)) := by
  subst hn
  unfold OwnR at h ⊢
  rw [List.length_set, ← en_set2 x M k hk]
  exact ((h.stored _ (.int .i64 x.1)).1.stored _ (.int .i64 x.2)).1
theorem pput_yes {N : List En} {s : Int} {k : Nat} {x : Int × Int} (h : Cut14 N s k) (hk : k < N.length) (hs : N[k].1 = s) : N.set k (N[k].1, x) = putS14 N s x := by
  unfold putS14
  rw [h.lo, (h.is hk hs).2, hs, List.set_eq_take_append_cons_drop, if_pos hk]
theorem pput_no {N : List En} {s : Int} {k : Nat} {x : Int × Int} (h : Cut14 N s k) (hs : getS N s = none) : (N.take k ++ (s, 0, 0) :: N.drop k).set k (s, x) = putS14 N s x := by
  have hn : ∀ (hk : k < N.length), N[k].1 ≠ s := fun hk e => by rw [(h.is hk e).1] at hs; cases hs
  unfold putS14
  have hl : (N.take k).length = k := by rw [List.length_take, Nat.min_eq_left h.le]
  rw [h.lo, (h.no hn).2, List.set_append_right _ _ (by omega), hl, Nat.sub_self, List.set_cons_zero]
theorem prw_new {W w1 : World} {t : TypeId} {x y : Int} (hb : Below (W.alloc (.cells #[.int .i64 x, .int .i64 y] t)).drew.heap.size (W.alloc (.cells #[.int .i64 x, .int .i64 y] t)).drew w1) : Rw2 w1 W.heap.size x y := Rw2.call (by simp [Rw2, Bx2, go_sem]) hb
theorem prw_new2 {W w1 : World} {t : TypeId} {x y : Int} (hb : Below (W.alloc (.cells #[.int .i64 x, .int .i64 y] t)).heap.size (W.alloc (.cells #[.int .i64 x, .int .i64 y] t)) w1) : Rw2 w1 W.heap.size x y := Rw2.call (by simp [Rw2, Bx2, go_sem]) hb
theorem own_near {w : World} {te : TypeId} {B : Nat} {v v0 : Value} {l : List En} (h : OwnR te 3 enC w B v l) : NewOr B w v0 v := by
  rcases h.2 with ⟨rfl, -⟩ | ⟨g, cap, cur, rfl, hB, hg, -⟩
  · exact .inl rfl
  · exact .inr (.inr ⟨g, rfl, hB, (Array.getElem?_eq_some_iff.1 hg).1⟩)
set_option maxRecDepth 100000 in
set_option maxHeartbeats 8000000 in
theorem ptake_bad (B R : Int) (v : Value) (L : List En) (s now : Int) (w : World) (hv : IsR 3 enC w v L) (hl : L.length ≤ 1000000) (hc : chkS14 B R L ≠ 0) : Calls Try.prog 8 #[twV B R, v, .int .i64 s, .int .i64 now] w fun e w' => ∃ v', e = .returned (.tuple #[v', .int .i64 (tkE14 B R L s now)]) ∧ OwnR 64 3 enC w' w.heap.size v' (tkS14 B R L s now) ∧ Below w.heap.size w w' := by
  have c0 := Lib.hid (fun W (hb : Below w.heap.size w W) => pscheck_any B R v L W (hv.call hb) hl)
  have cC := Lib.hid (fun W (hb : Below w.heap.size w W) => clone14_any v L W (hv.call hb) hl)
  have HQ : Hid (tkE14 B R L s now = chkS14 B R L ∧ tkS14 B R L s now = L) := Lib.hid ⟨by unfold tkE14; rw [if_pos hc], by unfold tkS14; rw [if_pos hc]⟩
  have e0 : (chkS14 B R L != 0) = true := by simp [hc]
  have e1 : ¬ (chkS14 B R L = 0) := hc
  rw [HQ.out.1, HQ.out.2]
  generalize chkS14 B R L = E at c0 e0 e1 ⊢
  simp only [twV] at *
  clear hc HQ hv
  go_enter Try.func8, Try.ntmps8
  go_wp2_with fail
  refine (c0.out _ (by (repeat (first | (with_reducible exact Below.refl _ _) | ((with_reducible refine below_alloc ?_ ?_ _); · (first | omega | (simp; done) | (simp; omega))) | ((with_reducible refine below_setCell ?_ ?_ _); · (first | omega | (simp; done) | (simp; omega))) | (with_reducible refine Below.drew ?_) | (with_reducible refine below_drewN ?_ _) | ((with_reducible refine below_call (by assumption) ?_ ?_); · (first | omega | (simp; done) | (simp; omega))))))).mono ?_; rintro e w1 ⟨rfl, hb1⟩
  have B1 : Below w.heap.size w w1 := by (repeat (first | (with_reducible exact Below.refl _ _) | ((with_reducible refine below_alloc ?_ ?_ _); · (first | omega | (simp; done) | (simp; omega))) | ((with_reducible refine below_setCell ?_ ?_ _); · (first | omega | (simp; done) | (simp; omega))) | (with_reducible refine Below.drew ?_) | (with_reducible refine below_drewN ?_ _) | ((with_reducible refine below_call (by assumption) ?_ ?_); · (first | omega | (simp; done) | (simp; omega)))))
  go_wp2_with fail
  refine (cC.out _ B1).mono ?_; rintro e w2 ⟨v2, rfl, ho2, hb2⟩
  have B2 := B1.trans (hb2.mono B1.size)
  go_wp2
  go_ret2
  exact ⟨_, rfl, ho2.mono B1.size, B2⟩
set_option maxRecDepth 100000 in
set_option maxHeartbeats 8000000 in
theorem ptake_arg (B R : Int) (v : Value) (L : List En) (s now : Int) (w : World) (hv : IsR 3 enC w v L) (hl : L.length ≤ 1000000) (hc : chkS14 B R L = 0) (hm : mayS s = false) : Calls Try.prog 8 #[twV B R, v, .int .i64 s, .int .i64 now] w fun e w' => ∃ v', e = .returned (.tuple #[v', .int .i64 (tkE14 B R L s now)]) ∧ OwnR 64 3 enC w' w.heap.size v' (tkS14 B R L s now) ∧ Below w.heap.size w w' := by
  have c0 := Lib.hid (fun W (hb : Below w.heap.size w W) => pscheck_any B R v L W (hv.call hb) hl)
  have cM := Lib.hid (fun W => pmay_any s W)
  have cC := Lib.hid (fun W (hb : Below w.heap.size w W) => clone14_any v L W (hv.call hb) hl)
  have HQ : Hid (tkE14 B R L s now = 2 ∧ tkS14 B R L s now = L) := Lib.hid ⟨by unfold tkE14; rw [if_neg (by rw [hc]; decide), if_pos hm], by unfold tkS14; rw [if_neg (by rw [hc]; decide), if_pos hm]⟩
  rw [HQ.out.1, HQ.out.2]
  rw [hc] at c0
  rw [hm] at cM
  simp only [twV] at *
  clear hc hm HQ hv
  go_enter Try.func8, Try.ntmps8
  go_wp2_with fail
  refine (c0.out _ (by (repeat (first | (with_reducible exact Below.refl _ _) | ((with_reducible refine below_alloc ?_ ?_ _); · (first | omega | (simp; done) | (simp; omega))) | ((with_reducible refine below_setCell ?_ ?_ _); · (first | omega | (simp; done) | (simp; omega))) | (with_reducible refine Below.drew ?_) | (with_reducible refine below_drewN ?_ _) | ((with_reducible refine below_call (by assumption) ?_ ?_); · (first | omega | (simp; done) | (simp; omega))))))).mono ?_; rintro e w1 ⟨rfl, hb1⟩
  have B1 : Below w.heap.size w w1 := by (repeat (first | (with_reducible exact Below.refl _ _) | ((with_reducible refine below_alloc ?_ ?_ _); · (first | omega | (simp; done) | (simp; omega))) | ((with_reducible refine below_setCell ?_ ?_ _); · (first | omega | (simp; done) | (simp; omega))) | (with_reducible refine Below.drew ?_) | (with_reducible refine below_drewN ?_ _) | ((with_reducible refine below_call (by assumption) ?_ ?_); · (first | omega | (simp; done) | (simp; omega)))))
  go_wp2_with fail
  refine (cM.out _).mono ?_; rintro e w2 ⟨rfl, rfl⟩
  go_wp2_with fail
  refine (cC.out _ B1).mono ?_; rintro e w3 ⟨v2, rfl, ho2, hb2⟩
  have B2 := B1.trans (hb2.mono B1.size)
  go_wp2
  go_ret2
  exact ⟨_, rfl, ho2.mono B1.size, B2⟩
set_option maxRecDepth 100000 in
set_option maxHeartbeats 8000000 in
theorem ptake_full (B R : Int) (v : Value) (L : List En) (s now : Int) (w : World) (hv : IsR 3 enC w v L) (hl : L.length ≤ 1000000) (hc : chkS14 B R L = 0) (hm : mayS s = true) (hg : (getS (clnS B R L now) s).isSome = false) (h8 : (clnS B R L now).length = 8) (hE : tkE14 B R L s now = 7) (hS : tkS14 B R L s now = clnS B R L now) : Calls Try.prog 8 #[twV B R, v, .int .i64 s, .int .i64 now] w fun e w' => ∃ v', e = .returned (.tuple #[v', .int .i64 (tkE14 B R L s now)]) ∧ OwnR 64 3 enC w' w.heap.size v' (tkS14 B R L s now) ∧ Below w.heap.size w w' := by
  have c0 := Lib.hid (fun W (hb : Below w.heap.size w W) => pscheck_any B R v L W (hv.call hb) hl)
  have cM := Lib.hid (fun W => pmay_any s W)
  have cC := Lib.hid (fun W (hb : Below w.heap.size w W) => psclean_own B R v L now W (hv.call hb) hl)
  have X0 : Hid (∀ t, Bx2 (w.alloc (.cells #[.int .i64 B, .int .i64 R] t)) w.heap.size B R) := Lib.hid (fun t => by simp [Bx2, go_sem])
  rw [hE, hS]
  rw [hc] at c0
  rw [hm] at cM
  have hc2 := chk_iff.1 hc
  have hN8 : (clnS B R L now).length ≤ 8 := by rw [cln_fl hc now]; exact Nat.le_trans (List.length_filter_le _ _) hc2.2.1
  have hNp : (clnS B R L now).Pairwise (fun a b => a.1 < b.1) := by rw [cln_fl hc now]; exact hc2.2.2.2.filter _
  generalize clnS B R L now = N at *
  obtain ⟨k, hk⟩ := pcut_ex (s := s) hNp
  have HP := Lib.hid hNp
  have HK := Lib.hid hk
  have hNl : N.length ≤ 1000000 := by omega
  simp only [twV] at *
  clear hc hm hc2 hE hS hNp hv
  go_enter Try.func8, Try.ntmps8
  go_wp2_with fail
  refine (c0.out _ (by (repeat (first | (with_reducible exact Below.refl _ _) | ((with_reducible refine below_alloc ?_ ?_ _); · (first | omega | (simp; done) | (simp; omega))) | ((with_reducible refine below_setCell ?_ ?_ _); · (first | omega | (simp; done) | (simp; omega))) | (with_reducible refine Below.drew ?_) | (with_reducible refine below_drewN ?_ _) | ((with_reducible refine below_call (by assumption) ?_ ?_); · (first | omega | (simp; done) | (simp; omega))))))).mono ?_; rintro e w1 ⟨rfl, hb1⟩
  have B1 : Below w.heap.size w w1 := by (repeat (first | (with_reducible exact Below.refl _ _) | ((with_reducible refine below_alloc ?_ ?_ _); · (first | omega | (simp; done) | (simp; omega))) | ((with_reducible refine below_setCell ?_ ?_ _); · (first | omega | (simp; done) | (simp; omega))) | (with_reducible refine Below.drew ?_) | (with_reducible refine below_drewN ?_ _) | ((with_reducible refine below_call (by assumption) ?_ ?_); · (first | omega | (simp; done) | (simp; omega)))))
  have X1 := (X0.out _).call hb1
  clear X0
  go_wp2_with fail
  refine (cM.out _).mono ?_; rintro e w2 ⟨rfl, rfl⟩
  obtain ⟨x0, x1⟩ := id X1
  go_wp2_with fail
  refine (cC.out _ B1).mono ?_; rintro e w3 ⟨v2, rfl, ho2, hb2⟩
  clear x0 x1
  have HN := Lib.hid (ho2.mono (B := w2.heap.size) (B' := w.heap.size) B1.size)
  have B3 := B1.trans (hb2.mono B1.size)
  have X3 := X1.call hb2
  have cF := find14_any v2 N s w3 (HN.out.reads enC_len) hNl HP.out
  rw [hk.len, hg] at cF
  clear ho2 X1 hk
  go_wp2_with fail
  refine cF.mono ?_; rintro e w4 ⟨rfl, hb4⟩
  have HN4 := Lib.hid (HN.out.call hb4)
  have B4 := B3.trans (hb4.mono B3.size)
  have X4 := Lib.hid (X3.call hb4)
  clear cF X3 HN
  obtain ⟨p2, c2, rfl⟩ := HN4.out.form
  rw [h8] at HN4 ⊢
  go_wp2
  go_ret2
  exact ⟨_, rfl, HN4.out, B4⟩
end Go.Proofs.Ytpmabkegjdjodaa
