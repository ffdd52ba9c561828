/- Layer 7, the program's: where a table lies; contracts: Len, room, Full, own, behind, way. -/
import Derived.Test.YtaenbnohkhmnbaaT7M
import Derived.Lib.Hide
import Derived.Deep.QuietTactic
import Derived.BigQuiet
import Derived.Lib.SliceRun
import Derived.BigFrame
namespace Go.Proofs.Ytaenbnohkhmnbaa
open Go.RowKit
set_option linter.unusedVariables false
set_option linter.unusedSimpArgs false

/-- all that lay in w lies in w' as it did, but for two blocks -/
def But2 (w w' : World) (g h : Nat) : Prop := Below 0 w w' ∧ ∀ q, q < w.heap.size → q ≠ g → q ≠ h → w'.heap[q]? = w.heap[q]?
theorem But2.refl (w : World) (g h : Nat) : But2 w w g h := ⟨Below.refl _ _, fun _ _ _ _ => rfl⟩
theorem But2.size {w w' : World} {g h : Nat} (H : But2 w w' g h) : w.heap.size ≤ w'.heap.size := H.1.size
theorem But2.trans {w w1 w2 : World} {g h : Nat} (h1 : But2 w w1 g h) (h2 : But2 w1 w2 g h) : But2 w w2 g h :=
  ⟨h1.1.trans h2.1, fun q hq e1 e2 => (h2.2 q (Nat.lt_of_lt_of_le hq h1.size) e1 e2).trans (h1.2 q hq e1 e2)⟩
theorem But2.set {w W : World} {g h : Nat} (H : But2 w W g h) {b o : Nat} (u : Value) (hb : b = g ∨ b = h) : But2 w (W.setCell ⟨b, o, none⟩ u) g h :=
  ⟨H.1.setCell (Nat.zero_le _) u, fun q hq e1 e2 => (Below.heap_setCell W ⟨b, o, none⟩ u q (by show q ≠ b; rcases hb with rfl | rfl <;> assumption)).trans (H.2 q hq e1 e2)⟩
theorem But2.below {w w' : World} (g h : Nat) (H : Below w.heap.size w w') : But2 w w' g h := ⟨H.mono (Nat.zero_le _), fun q hq _ _ => H.block q hq⟩
theorem But2.call {w W W' : World} {g h : Nat} (H : But2 w W g h) (hb : Below W.heap.size W W') : But2 w W' g h := H.trans (But2.below g h hb)
theorem But2.to {w w' : World} {g h B : Nat} (H : But2 w w' g h) (hg : B ≤ g) (hh : B ≤ h) (hB : B ≤ w.heap.size) : Below B w w' :=
  ⟨H.1.os, H.1.tape, H.1.output, H.1.size, fun q hq => H.2 q (by omega) (by omega) (by omega)⟩
theorem But2.cell {w w' : World} {g h : Nat} (H : But2 w w' g h) {b o : Nat} {v : Value} (hv : w.cell? ⟨b, o, none⟩ = some v) (e1 : b ≠ g) (e2 : b ≠ h) : w'.cell? ⟨b, o, none⟩ = some v :=
  (World.cell?_of_block (w := w) (a := ⟨b, o, none⟩) (H.2 b (World.block_lt_of_cell? _ _ hv) e1 e2)).trans hv
theorem But2.drew {w W : World} {g h : Nat} (H : But2 w W g h) : But2 w W.drew g h := ⟨Below.drew H.1, H.2⟩
theorem But2.drewN {w W : World} {g h : Nat} (H : But2 w W g h) (n : Nat) : But2 w (W.drewN n) g h := ⟨below_drewN H.1 n, H.2⟩
theorem But2.setCells {g h : Nat} : ∀ (vs : List Value) (o : Nat) {w W : World}, But2 w W g h → But2 w (W.setCells h o vs) g h
  | [], _, _, _, H => H
  | v :: vs, o, _, _, H => But2.setCells vs (o + 1) (H.set v (.inr rfl))

/-- a table lies in the blocks g (its box) and h (its slots): N slots, a count of K, the slots c -/
structure LieT (w : World) (g h N K : Nat) (c : Nat → Sl) : Prop where
  ne : g ≠ h
  c0 : w.cell? ⟨g, 0, none⟩ = some (.slice (some ⟨h, 0, none⟩) N N)
  c1 : w.cell? ⟨g, 1, none⟩ = some (.int .i64 K)
  fr : ∀ o, w.frozen? ⟨g, o, none⟩ = false
  k0 : ∀ j, j < N → w.cell? ⟨h, j * 3, none⟩ = some (.string (keyO (c j)))
  k1 : ∀ j, j < N → w.cell? ⟨h, j * 3 + 1, none⟩ = some (.int .i64 (valO (c j)))
  k2 : ∀ j, j < N → w.cell? ⟨h, j * 3 + 2, none⟩ = some (.bool (c j).isSome)
  fs : ∀ j, w.frozen? ⟨h, j, none⟩ = false
  hN : 2 ≤ N ∧ N ≤ 256
  hK : K ≤ 256
  ks : ∀ j, j < N → (keyO (c j)).size ≤ 64
abbrev ptrV (g : Nat) : Value := .pointer (some ⟨g, 0, none⟩)
theorem LieT.ltg {w : World} {g h N K : Nat} {c : Nat → Sl} (H : LieT w g h N K c) : g < w.heap.size := World.block_lt_of_cell? _ _ H.c0
theorem LieT.lth {w : World} {g h N K : Nat} {c : Nat → Sl} (H : LieT w g h N K c) : h < w.heap.size := World.block_lt_of_cell? _ _ (H.k0 0 (by have := H.hN; omega))
theorem LieT.far {W w1 : World} {B g h N K : Nat} {c : Nat → Sl} (H : LieT W g h N K c) (hb : Below B W w1) (hg : g < B) (hh : h < B) : LieT w1 g h N K c :=
  { H with
    c0 := (hb.cell (p := ⟨g, 0, none⟩) hg).trans H.c0
    c1 := (hb.cell (p := ⟨g, 1, none⟩) hg).trans H.c1
    fr := fun o => (hb.frozen (p := ⟨g, o, none⟩) hg).trans (H.fr o)
    k0 := fun j hj => (hb.cell (p := ⟨h, j * 3, none⟩) hh).trans (H.k0 j hj)
    k1 := fun j hj => (hb.cell (p := ⟨h, j * 3 + 1, none⟩) hh).trans (H.k1 j hj)
    k2 := fun j hj => (hb.cell (p := ⟨h, j * 3 + 2, none⟩) hh).trans (H.k2 j hj)
    fs := fun j => (hb.frozen (p := ⟨h, j, none⟩) hh).trans (H.fs j) }
theorem LieT.call {W w1 : World} {g h N K : Nat} {c : Nat → Sl} (H : LieT W g h N K c) (hb : Below W.heap.size W w1) : LieT w1 g h N K c := H.far hb H.ltg H.lth
theorem LieT.setK {w : World} {g h N K : Nat} {c : Nat → Sl} (H : LieT w g h N K c) (K' : Nat) (hK : K' ≤ 256) : LieT (w.setCell ⟨g, 1, none⟩ (.int .i64 K')) g h N K' c :=
  { H with
    c0 := by rw [World.cell?_setCell_other _ _ _ _ (by simp)]; exact H.c0
    c1 := World.cell?_setCell_same _ _ _ H.c1
    fr := fun o => by simpa using H.fr o
    k0 := fun j hj => by rw [World.cell?_setCell_other _ _ _ _ (by have := H.ne; first | (simp; done) | (simp; omega))]; exact H.k0 j hj
    k1 := fun j hj => by rw [World.cell?_setCell_other _ _ _ _ (by have := H.ne; first | (simp; done) | (simp; omega))]; exact H.k1 j hj
    k2 := fun j hj => by rw [World.cell?_setCell_other _ _ _ _ (by have := H.ne; first | (simp; done) | (simp; omega))]; exact H.k2 j hj
    fs := fun j => by simpa using H.fs j
    hK := hK }
theorem LieT.setS {w : World} {g h N K : Nat} {c : Nat → Sl} (H : LieT w g h N K c) (i : Nat) (x : Sl) (hi : i < N) (hx : (keyO x).size ≤ 64) :
    LieT (((w.setCell ⟨h, i * 3, none⟩ (.string (keyO x))).setCell ⟨h, i * 3 + 1, none⟩ (.int .i64 (valO x))).setCell ⟨h, i * 3 + 2, none⟩ (.bool x.isSome)) g h N K (upd c i x) := by
  have hne := H.ne
  have n0 : ∀ (W : World) (u : Value) (o p : Nat), (W.setCell ⟨h, p, none⟩ u).cell? ⟨g, o, none⟩ = W.cell? ⟨g, o, none⟩ := fun W u o p => World.cell?_setCell_other _ _ _ _ (by first | (simp; done) | (simp; omega))
  have nh : ∀ (W : World) (u : Value) (o p : Nat), p ≠ o → (W.setCell ⟨h, p, none⟩ u).cell? ⟨h, o, none⟩ = W.cell? ⟨h, o, none⟩ := fun W u o p e => World.cell?_setCell_other _ _ _ _ (by first | (simp; done) | (simp; omega))
  exact { H with
    c0 := by rw [n0, n0, n0]; exact H.c0
    c1 := by rw [n0, n0, n0]; exact H.c1
    fr := fun o => by simpa using H.fr o
    k0 := fun j hj => by
      by_cases e : j = i
      · subst e; rw [upd_same, nh _ _ _ _ (by omega), nh _ _ _ _ (by omega)]; exact World.cell?_setCell_same _ _ _ (H.k0 j hj)
      · rw [upd_other _ _ _ e, nh _ _ _ _ (by omega), nh _ _ _ _ (by omega), nh _ _ _ _ (by omega)]; exact H.k0 j hj
    k1 := fun j hj => by
      by_cases e : j = i
      · subst e; rw [upd_same, nh _ _ _ _ (by omega)]; exact World.cell?_setCell_same _ _ _ ((nh _ _ _ _ (by omega)).trans (H.k1 j hj))
      · rw [upd_other _ _ _ e, nh _ _ _ _ (by omega), nh _ _ _ _ (by omega), nh _ _ _ _ (by omega)]; exact H.k1 j hj
    k2 := fun j hj => by
      by_cases e : j = i
      · subst e; rw [upd_same]; exact World.cell?_setCell_same _ _ _ ((nh _ _ _ _ (by omega)).trans ((nh _ _ _ _ (by omega)).trans (H.k2 j hj)))
      · rw [upd_other _ _ _ e, nh _ _ _ _ (by omega), nh _ _ _ _ (by omega), nh _ _ _ _ (by omega)]; exact H.k2 j hj
    fs := fun j => by simpa using H.fs j
    ks := fun j hj => by
      by_cases e : j = i
      · subst e; rw [upd_same]; exact hx
      · rw [upd_other _ _ _ e]; exact H.ks j hj }

theorem len_any (g h N K : Nat) (c : Nat → Sl) (w : World) (H : LieT w g h N K c) :
    Calls Try.prog 8 #[ptrV g] w fun e w' => e = .returned (.int .i64 K) ∧ Below w.heap.size w w' := by
  have c1 := H.c1
  clear H
  go_enter Try.func8, Try.ntmps8
  go_wp2
  go_ret
  exact ⟨rfl, by (repeat (first | (with_reducible exact Below.refl _ _) | ((with_reducible refine below_alloc ?_ ?_ _); · (first | omega | (simp; done) | (simp; omega))) | ((with_reducible refine below_setCell ?_ ?_ _); · (first | omega | (simp; done) | (simp; omega))) | (with_reducible refine Below.drew ?_) | (with_reducible refine below_drewN ?_ _) | ((with_reducible refine below_call (by assumption) ?_ ?_); · (first | omega | (simp; done) | (simp; omega)))))⟩
theorem len_nil (w : World) : Calls Try.prog 8 #[.pointer none] w fun e w' => e = .returned (.int .i64 0) ∧ Below w.heap.size w w' := by
  go_enter Try.func8, Try.ntmps8
  go_wp2
  go_ret
  exact ⟨rfl, by (repeat (first | (with_reducible exact Below.refl _ _) | ((with_reducible refine below_alloc ?_ ?_ _); · (first | omega | (simp; done) | (simp; omega))) | ((with_reducible refine below_setCell ?_ ?_ _); · (first | omega | (simp; done) | (simp; omega))) | (with_reducible refine Below.drew ?_) | (with_reducible refine below_drewN ?_ _) | ((with_reducible refine below_call (by assumption) ?_ ?_); · (first | omega | (simp; done) | (simp; omega)))))⟩
theorem room_any (g h N K : Nat) (c : Nat → Sl) (w : World) (H : LieT w g h N K c) :
    Calls Try.prog 24 #[ptrV g] w fun e w' => e = .returned (.int .i64 N) ∧ Below w.heap.size w w' := by
  have c0 := H.c0
  clear H
  go_enter Try.func24, Try.ntmps24
  go_wp2
  go_ret
  exact ⟨rfl, by (repeat (first | (with_reducible exact Below.refl _ _) | ((with_reducible refine below_alloc ?_ ?_ _); · (first | omega | (simp; done) | (simp; omega))) | ((with_reducible refine below_setCell ?_ ?_ _); · (first | omega | (simp; done) | (simp; omega))) | (with_reducible refine Below.drew ?_) | (with_reducible refine below_drewN ?_ _) | ((with_reducible refine below_call (by assumption) ?_ ?_); · (first | omega | (simp; done) | (simp; omega)))))⟩
theorem room_nil (w : World) : Calls Try.prog 24 #[.pointer none] w fun e w' => e = .returned (.int .i64 0) ∧ Below w.heap.size w w' := by
  go_enter Try.func24, Try.ntmps24
  go_wp2
  go_ret
  exact ⟨rfl, by (repeat (first | (with_reducible exact Below.refl _ _) | ((with_reducible refine below_alloc ?_ ?_ _); · (first | omega | (simp; done) | (simp; omega))) | ((with_reducible refine below_setCell ?_ ?_ _); · (first | omega | (simp; done) | (simp; omega))) | (with_reducible refine Below.drew ?_) | (with_reducible refine below_drewN ?_ _) | ((with_reducible refine below_call (by assumption) ?_ ?_); · (first | omega | (simp; done) | (simp; omega)))))⟩
/-- is there no more room? -/
def fullP (N K : Nat) : Bool := decide (N * 3 / 4 ≤ K)
theorem full_any (g h N K : Nat) (c : Nat → Sl) (w : World) (H : LieT w g h N K c) :
    Calls Try.prog 9 #[ptrV g] w fun e w' => e = .returned (.bool (fullP N K)) ∧ Below w.heap.size w w' := by
  have cl := len_any g h N K c w H
  have cr := fun W (hb : Below w.heap.size w W) => room_any g h N K c W (H.call hb)
  have hN := H.hN
  have hK := H.hK
  have hw : IntKind.i64.wrap ((N : Int) * 3) = (N : Int) * 3 := IntWalk.i64_in _ (by omega)
  have hq : Int.tdiv ((N : Int) * 3) 4 = (N * 3 / 4 : Nat) := by rw [Int.tdiv_eq_ediv_of_nonneg (by omega)]; omega
  have hq2 : ((N : Int) * 3) / 4 = (N * 3 / 4 : Nat) := by omega
  have hw2 : IntKind.i64.wrap ((N * 3 / 4 : Nat) : Int) = (N * 3 / 4 : Nat) := IntWalk.i64_in _ (by omega)
  have hd : Hid (decide (N * 3 / 4 ≤ K) = fullP N K) := Lib.hid rfl
  obtain ⟨q, hqq⟩ : ∃ q : Nat, N * 3 / 4 = q := ⟨_, rfl⟩
  rw [hqq] at hd hw2 hq2 hq
  clear H hN hK hqq
  go_enter Try.func9, Try.ntmps9
  go_wp2_with fail
  refine cl.mono ?_; rintro e w1 ⟨rfl, hb1⟩
  have hz1 := hb1.size
  go_wp2_with fail
  refine (cr _ (by (repeat (first | (with_reducible exact Below.refl _ _) | ((with_reducible refine below_alloc ?_ ?_ _); · (first | omega | (simp; done) | (simp; omega))) | ((with_reducible refine below_setCell ?_ ?_ _); · (first | omega | (simp; done) | (simp; omega))) | (with_reducible refine Below.drew ?_) | (with_reducible refine below_drewN ?_ _) | ((with_reducible refine below_call (by assumption) ?_ ?_); · (first | omega | (simp; done) | (simp; omega))))))).mono ?_; rintro e w2 ⟨rfl, hb2⟩
  have hz2 := hb2.size
  go_wp2
  go_ret
  exact ⟨ret_bool hd.out, by (repeat (first | (with_reducible exact Below.refl _ _) | ((with_reducible refine below_alloc ?_ ?_ _); · (first | omega | (simp; done) | (simp; omega))) | ((with_reducible refine below_setCell ?_ ?_ _); · (first | omega | (simp; done) | (simp; omega))) | (with_reducible refine Below.drew ?_) | (with_reducible refine below_drewN ?_ _) | ((with_reducible refine below_call (by assumption) ?_ ?_); · (first | omega | (simp; done) | (simp; omega)))))⟩
theorem full_nil (w : World) :
    Calls Try.prog 9 #[.pointer none] w fun e w' => e = .returned (.bool true) ∧ Below w.heap.size w w' := by
  go_enter Try.func9, Try.ntmps9
  go_wp2_with fail
  refine (len_nil _).mono ?_; rintro e w1 ⟨rfl, hb1⟩
  have hz1 := hb1.size
  go_wp2_with fail
  refine (room_nil _).mono ?_; rintro e w2 ⟨rfl, hb2⟩
  have hz2 := hb2.size
  go_wp2
  go_ret
  exact ⟨rfl, by (repeat (first | (with_reducible exact Below.refl _ _) | ((with_reducible refine below_alloc ?_ ?_ _); · (first | omega | (simp; done) | (simp; omega))) | ((with_reducible refine below_setCell ?_ ?_ _); · (first | omega | (simp; done) | (simp; omega))) | (with_reducible refine Below.drew ?_) | (with_reducible refine below_drewN ?_ _) | ((with_reducible refine below_call (by assumption) ?_ ?_); · (first | omega | (simp; done) | (simp; omega)))))⟩
theorem own_any (g h N K : Nat) (c : Nat → Sl) (k : ByteArray) (w : World) (H : LieT w g h N K c) (hk : k.size ≤ maxLen) :
    Calls Try.prog 38 #[ptrV g, .string k] w fun e w' => e = .returned (.int .i64 (ow N k : Nat)) ∧ Below w.heap.size w w' := by
  have c0 := H.c0
  have hN := H.hN
  have co := fun W => of_any k W hk
  have cs := fun W => slot_own N k W (by omega) hN.2
  clear H hN hk
  go_enter Try.func38, Try.ntmps38
  go_wp2
  go_region_with (first | (go_at_call 16; refine (co _).mono ?_; rintro e w1 ⟨rfl, rfl⟩) | (go_at_call 13; refine (cs _).mono ?_; rintro e w2 ⟨rfl, rfl⟩))
  all_goals
    go_wp2
    go_ret
    exact ⟨rfl, by (repeat (first | (with_reducible exact Below.refl _ _) | ((with_reducible refine below_alloc ?_ ?_ _); · (first | omega | (simp; done) | (simp; omega))) | ((with_reducible refine below_setCell ?_ ?_ _); · (first | omega | (simp; done) | (simp; omega))) | (with_reducible refine Below.drew ?_) | (with_reducible refine below_drewN ?_ _) | ((with_reducible refine below_call (by assumption) ?_ ?_); · (first | omega | (simp; done) | (simp; omega)))))⟩
theorem behind_any (g h N K : Nat) (c : Nat → Sl) (a : Nat) (w : World) (H : LieT w g h N K c) (ha : a < N) :
    Calls Try.prog 39 #[ptrV g, .int .i64 a] w fun e w' => e = .returned (.int .i64 (nxt N a : Nat)) ∧ Below w.heap.size w w' := by
  have c0 := H.c0
  have hN := H.hN
  have he := Lib.hid (nxt_emod ha)
  have hw : IntKind.i64.wrap ((a : Int) + 1) = (a : Int) + 1 := IntWalk.i64_in _ (by omega)
  have hN0 : ((N : Int) == 0) = false := by simp; omega
  clear H hN
  go_enter Try.func39, Try.ntmps39
  go_wp2
  go_ret
  exact ⟨ret_int he.out, by (repeat (first | (with_reducible exact Below.refl _ _) | ((with_reducible refine below_alloc ?_ ?_ _); · (first | omega | (simp; done) | (simp; omega))) | ((with_reducible refine below_setCell ?_ ?_ _); · (first | omega | (simp; done) | (simp; omega))) | (with_reducible refine Below.drew ?_) | (with_reducible refine below_drewN ?_ _) | ((with_reducible refine below_call (by assumption) ?_ ?_); · (first | omega | (simp; done) | (simp; omega)))))⟩
theorem way_any (g h N K : Nat) (c : Nat → Sl) (a b : Nat) (w : World) (H : LieT w g h N K c) (ha : a < N) (hb : b < N) :
    Calls Try.prog 40 #[ptrV g, .int .i64 a, .int .i64 b] w fun e w' => e = .returned (.int .i64 (dist N a b : Nat)) ∧ Below w.heap.size w w' := by
  have c0 := H.c0
  have hN := H.hN
  have he := Lib.hid (dist_emod ha hb)
  have hw : IntKind.i64.wrap ((b : Int) - a) = (b : Int) - a := IntWalk.i64_in _ (by omega)
  have hw2 : IntKind.i64.wrap ((b : Int) - a + N) = (b : Int) - a + N := IntWalk.i64_in _ (by omega)
  have hN0 : ((N : Int) == 0) = false := by simp; omega
  clear H hN
  go_enter Try.func40, Try.ntmps40
  go_wp2
  go_quiet (fail)
  go_wp2
  go_ret
  exact ⟨ret_int he.out, by (repeat (first | (with_reducible exact Below.refl _ _) | ((with_reducible refine below_alloc ?_ ?_ _); · (first | omega | (simp; done) | (simp; omega))) | ((with_reducible refine below_setCell ?_ ?_ _); · (first | omega | (simp; done) | (simp; omega))) | (with_reducible refine Below.drew ?_) | (with_reducible refine below_drewN ?_ _) | ((with_reducible refine below_call (by assumption) ?_ ?_); · (first | omega | (simp; done) | (simp; omega)))))⟩
end Go.Proofs.Ytaenbnohkhmnbaa
