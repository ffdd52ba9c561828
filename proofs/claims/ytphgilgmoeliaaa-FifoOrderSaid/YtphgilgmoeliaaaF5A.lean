/- Layer 5, the program's: where a ring lies; contracts: cell, Len, Room. -/
import Derived.Test.YtphgilgmoeliaaaKitI
import Derived.Lib.Hide
import Derived.Deep.QuietTactic
import Derived.BigQuiet
import Derived.Lib.SliceRun
import Derived.BigFrame
namespace Go.Proofs.Ytphgilgmoeliaaa
open Go.RowKit
set_option linter.unusedVariables false
set_option linter.unusedSimpArgs false

/-- all that lay in w lies in w' as it did, but for two blocks -/
def But2 (w w' : World) (g h : Nat) : Prop := Below 0 w w' ∧ ∀ q, q < w.heap.size → q ≠ g → q ≠ h → w'.heap[q]? = w.heap[q]?
theorem But2.refl (w : World) (g h : Nat) : But2 w w g h := ⟨Below.refl _ _, fun _ _ _ _ => rfl⟩
theorem But2.size {w w' : World} {g h : Nat} (H : But2 w w' g h) : w.heap.size ≤ w'.heap.size := H.1.size
theorem But2.trans {w w1 w2 : World} {g h : Nat} (h1 : But2 w w1 g h) (h2 : But2 w1 w2 g h) : But2 w w2 g h :=
  ⟨h1.1.trans h2.1, fun q hq e1 e2 => (h2.2 q (Nat.lt_of_lt_of_le hq h1.size) e1 e2).trans (h1.2 q hq e1 e2)⟩
theorem But2.set {w W : World} {g h : Nat} (H : But2 w W g h) {b o : Nat} (u : Value) (hb : b = g ∨ b = h) : But2 w (W.setCell ⟨b, o, none⟩ u) g h :=
  ⟨H.1.setCell (Nat.zero_le _) u, fun q hq e1 e2 => (Below.heap_setCell W ⟨b, o, none⟩ u q (by show q ≠ b; rcases hb with rfl | rfl <;> assumption)).trans (H.2 q hq e1 e2)⟩
theorem But2.below {w w' : World} (g h : Nat) (H : Below w.heap.size w w') : But2 w w' g h := ⟨H.mono (Nat.zero_le _), fun q hq _ _ => H.block q hq⟩
theorem But2.call {w W W' : World} {g h : Nat} (H : But2 w W g h) (hb : Below W.heap.size W W') : But2 w W' g h := H.trans (But2.below g h hb)
theorem But2.to {w w' : World} {g h B : Nat} (H : But2 w w' g h) (hg : B ≤ g) (hh : B ≤ h) (hB : B ≤ w.heap.size) : Below B w w' :=
  ⟨H.1.os, H.1.tape, H.1.output, H.1.size, fun q hq => H.2 q (by omega) (by omega) (by omega)⟩
theorem But2.cell {w w' : World} {g h : Nat} (H : But2 w w' g h) {b o : Nat} {v : Value} (hv : w.cell? ⟨b, o, none⟩ = some v) (e1 : b ≠ g) (e2 : b ≠ h) : w'.cell? ⟨b, o, none⟩ = some v :=
  (World.cell?_of_block (w := w) (a := ⟨b, o, none⟩) (H.2 b (World.block_lt_of_cell? _ _ hv) e1 e2)).trans hv

/-- the cell of the m-th number -/
def cellN (f N m : Nat) : Nat := if f + m < N then f + m else f + m - N
theorem cellN_lt {f N m : Nat} (hf : f < N) (hm : m ≤ N) : cellN f N m < N := by unfold cellN; split <;> omega
theorem cellN_eq {f N m k : Nat} (hf : f < N) (hm : m < N) (hk : k < N) (h : cellN f N m = cellN f N k) : m = k := by
  unfold cellN at h; split at h <;> split at h <;> omega
theorem cellN_mod {f N m : Nat} (hf : f < N) (hm : m ≤ N) : (f + m) % N = cellN f N m := by
  unfold cellN
  split
  · exact Nat.mod_eq_of_lt (by assumption)
  · rw [Nat.mod_eq_sub_mod (by omega)]; exact Nat.mod_eq_of_lt (by omega)
theorem cellN_tmod {f N m : Nat} (hf : f < N) (hm : m ≤ N) : Int.tmod ((f : Int) + m) N = (cellN f N m : Nat) := by
  rw [Int.tmod_eq_emod_of_nonneg (by omega), ← cellN_mod hf hm, Int.natCast_emod, Int.natCast_add]

theorem cellN_emod {f N m : Nat} (hf : f < N) (hm : m ≤ N) : ((f : Int) + m) % N = (cellN f N m : Nat) := by
  rw [← cellN_mod hf hm, Int.natCast_emod, Int.natCast_add]

/-- a ring lies in the blocks g (its box) and h (its cells): N cells, the first number in cell f, k of them -/
structure Lie (w : World) (g h N f k : Nat) (c : Nat → Int) : Prop where
  ne : g ≠ h
  c0 : w.cell? ⟨g, 0, none⟩ = some (.slice (some ⟨h, 0, none⟩) N N)
  c1 : w.cell? ⟨g, 1, none⟩ = some (.int .i64 f)
  c2 : w.cell? ⟨g, 2, none⟩ = some (.int .i64 k)
  fr : ∀ o, w.frozen? ⟨g, o, none⟩ = false
  cs : ∀ j, j < N → w.cell? ⟨h, j, none⟩ = some (.int .i64 (c j))
  fs : ∀ j, w.frozen? ⟨h, j, none⟩ = false
  hf : f < N
  hN : N ≤ 64
  hk : k ≤ N
/-- these numbers wait in the cells -/
def Holds5 (f N : Nat) (c : Nat → Int) (L : List Int) : Prop := ∀ i (hi : i < L.length), L[i] = c (cellN f N i)
/-- a ring with so much room, in which these numbers wait -/
def IsR (w : World) (g h N : Nat) (L : List Int) : Prop := ∃ f c, Lie w g h N f L.length c ∧ Holds5 f N c L
abbrev ptrV (g : Nat) : Value := .pointer (some ⟨g, 0, none⟩)

theorem Lie.ltg {w : World} {g h N f k : Nat} {c : Nat → Int} (H : Lie w g h N f k c) : g < w.heap.size := World.block_lt_of_cell? _ _ H.c0
theorem Lie.lth {w : World} {g h N f k : Nat} {c : Nat → Int} (H : Lie w g h N f k c) : h < w.heap.size := World.block_lt_of_cell? _ _ (H.cs 0 (by have := H.hf; omega))
theorem Lie.call {W w1 : World} {g h N f k : Nat} {c : Nat → Int} (H : Lie W g h N f k c) (hb : Below W.heap.size W w1) : Lie w1 g h N f k c :=
  { H with
    c0 := (hb.cell (p := ⟨g, 0, none⟩) H.ltg).trans H.c0
    c1 := (hb.cell (p := ⟨g, 1, none⟩) H.ltg).trans H.c1
    c2 := (hb.cell (p := ⟨g, 2, none⟩) H.ltg).trans H.c2
    fr := fun o => (hb.frozen (p := ⟨g, o, none⟩) H.ltg).trans (H.fr o)
    cs := fun j hj => (hb.cell (p := ⟨h, j, none⟩) H.lth).trans (H.cs j hj)
    fs := fun j => (hb.frozen (p := ⟨h, j, none⟩) H.lth).trans (H.fs j) }
theorem Lie.setF {w : World} {g h N f k : Nat} {c : Nat → Int} (H : Lie w g h N f k c) (f' : Nat) (hf : f' < N) : Lie (w.setCell ⟨g, 1, none⟩ (.int .i64 f')) g h N f' k c :=
  { H with
    c0 := by rw [World.cell?_setCell_other _ _ _ _ (by simp)]; exact H.c0
    c1 := World.cell?_setCell_same _ _ _ H.c1
    c2 := by rw [World.cell?_setCell_other _ _ _ _ (by simp)]; exact H.c2
    fr := fun o => by simpa using H.fr o
    cs := fun j hj => by rw [World.cell?_setCell_other _ _ _ _ (by have := H.ne; first | (simp; done) | (simp; omega))]; exact H.cs j hj
    fs := fun j => by simpa using H.fs j
    hf := hf }
theorem Lie.setK {w : World} {g h N f k : Nat} {c : Nat → Int} (H : Lie w g h N f k c) (k' : Nat) (hk : k' ≤ N) : Lie (w.setCell ⟨g, 2, none⟩ (.int .i64 k')) g h N f k' c :=
  { H with
    c0 := by rw [World.cell?_setCell_other _ _ _ _ (by simp)]; exact H.c0
    c1 := by rw [World.cell?_setCell_other _ _ _ _ (by simp)]; exact H.c1
    c2 := World.cell?_setCell_same _ _ _ H.c2
    fr := fun o => by simpa using H.fr o
    cs := fun j hj => by rw [World.cell?_setCell_other _ _ _ _ (by have := H.ne; first | (simp; done) | (simp; omega))]; exact H.cs j hj
    fs := fun j => by simpa using H.fs j
    hk := hk }
theorem Lie.setC {w : World} {g h N f k : Nat} {c : Nat → Int} (H : Lie w g h N f k c) (o : Nat) (x : Int) (ho : o < N) : Lie (w.setCell ⟨h, o, none⟩ (.int .i64 x)) g h N f k (fun j => if j = o then x else c j) :=
  { H with
    c0 := by rw [World.cell?_setCell_other _ _ _ _ (by have := H.ne; first | (simp; done) | (simp; omega))]; exact H.c0
    c1 := by rw [World.cell?_setCell_other _ _ _ _ (by have := H.ne; first | (simp; done) | (simp; omega))]; exact H.c1
    c2 := by rw [World.cell?_setCell_other _ _ _ _ (by have := H.ne; first | (simp; done) | (simp; omega))]; exact H.c2
    fr := fun o => by simpa using H.fr o
    cs := fun j hj => by
      by_cases e : j = o
      · subst e; rw [if_pos rfl]; exact World.cell?_setCell_same _ _ _ (H.cs j hj)
      · rw [if_neg e, World.cell?_setCell_other _ _ _ _ (by first | (simp; done) | (simp; omega))]; exact H.cs j hj
    fs := fun j => by simpa using H.fs j }
/-- so many cells from o on are nought -/
def wiped (c : Nat → Int) (o n : Nat) : Nat → Int := fun j => if o ≤ j ∧ j < o + n then 0 else c j
theorem Lie.wipe {w : World} {g h N f k : Nat} {c : Nat → Int} (H : Lie w g h N f k c) (o n : Nat) (ho : o + n ≤ N) : Lie (w.setCells h o (List.replicate n (.int .i64 0))) g h N f k (wiped c o n) :=
  { H with
    c0 := by rw [World.cell?_setCells_out _ _ _ _ _ (fun e => absurd e H.ne)]; exact H.c0
    c1 := by rw [World.cell?_setCells_out _ _ _ _ _ (fun e => absurd e H.ne)]; exact H.c1
    c2 := by rw [World.cell?_setCells_out _ _ _ _ _ (fun e => absurd e H.ne)]; exact H.c2
    fr := fun o => by rw [World.frozen?_setCells]; exact H.fr o
    cs := fun j hj => by
      unfold wiped
      by_cases e : o ≤ j ∧ j < o + n
      · rw [if_pos e]
        have hi := World.cell?_setCells_in h (List.replicate n (Value.int .i64 0)) o w (fun i hi => by rw [H.cs _ (by simp at hi; omega)]; rfl) (j - o) (by simp; omega)
        rw [show o + (j - o) = j by omega] at hi
        rw [hi]; simp
      · rw [if_neg e, World.cell?_setCells_out _ _ _ _ _ (fun _ _ => by simp; omega)]; exact H.cs j hj
    fs := fun j => by rw [World.frozen?_setCells]; exact H.fs j }
theorem But2.drew {w W : World} {g h : Nat} (H : But2 w W g h) : But2 w W.drew g h := ⟨Below.drew H.1, H.2⟩
theorem Lie.drew {w : World} {g h N f k : Nat} {c : Nat → Int} (H : Lie w g h N f k c) : Lie w.drew g h N f k c := H.call (Below.drew (Below.refl _ _))
theorem But2.setCells {g h : Nat} : ∀ (vs : List Value) (o : Nat) {w W : World}, But2 w W g h → But2 w (W.setCells h o vs) g h
  | [], _, _, _, H => H
  | v :: vs, o, _, _, H => But2.setCells vs (o + 1) (H.set v (.inr rfl))
theorem IsR.call {W w1 : World} {g h N : Nat} {L : List Int} (H : IsR W g h N L) (hb : Below W.heap.size W w1) : IsR w1 g h N L := by
  obtain ⟨f, c, H, h2⟩ := H; exact ⟨f, c, H.call hb, h2⟩
theorem IsR.lt {w : World} {g h N : Nat} {L : List Int} (H : IsR w g h N L) : g < w.heap.size ∧ h < w.heap.size ∧ L.length ≤ N ∧ 1 ≤ N ∧ N ≤ 64 ∧ g ≠ h := by
  obtain ⟨f, c, H, -⟩ := H; exact ⟨H.ltg, H.lth, H.hk, by have := H.hf; omega, H.hN, H.ne⟩

theorem cell_any (g h N f : Nat) (k : Nat) (c : Nat → Int) (i : Nat) (w : World) (H : Lie w g h N f k c) (hi : i ≤ N) :
    Calls Try.prog 31 #[ptrV g, .int .i64 i] w fun e w' => e = .returned (.int .i64 (cellN f N i : Nat)) ∧ Below w.heap.size w w' := by
  have c0 := H.c0
  have c1 := H.c1
  have h1 := H.hf
  have h2 := H.hN
  have he := Lib.hid (cellN_emod h1 hi)
  have hN0 : ((N : Int) == 0) = false := by simp; omega
  clear H
  go_enter Try.func31, Try.ntmps31
  go_wp2
  go_quiet (fail)
  go_wp2
  go_ret
  exact ⟨ret_int he.out, by (repeat (first | (with_reducible exact Below.refl _ _) | ((with_reducible refine below_alloc ?_ ?_ _); · (first | omega | (simp; done) | (simp; omega))) | ((with_reducible refine below_setCell ?_ ?_ _); · (first | omega | (simp; done) | (simp; omega))) | (with_reducible refine Below.drew ?_) | (with_reducible refine below_drewN ?_ _) | ((with_reducible refine below_call (by assumption) ?_ ?_); · (first | omega | (simp; done) | (simp; omega)))))⟩

theorem len_any (g h N : Nat) (L : List Int) (w : World) (H : IsR w g h N L) :
    Calls Try.prog 16 #[ptrV g] w fun e w' => e = .returned (.int .i64 L.length) ∧ Below w.heap.size w w' := by
  obtain ⟨f, c, H, -⟩ := H
  have c2 := H.c2
  clear H
  go_enter Try.func16, Try.ntmps16
  go_wp2
  go_ret
  exact ⟨rfl, by (repeat (first | (with_reducible exact Below.refl _ _) | ((with_reducible refine below_alloc ?_ ?_ _); · (first | omega | (simp; done) | (simp; omega))) | ((with_reducible refine below_setCell ?_ ?_ _); · (first | omega | (simp; done) | (simp; omega))) | (with_reducible refine Below.drew ?_) | (with_reducible refine below_drewN ?_ _) | ((with_reducible refine below_call (by assumption) ?_ ?_); · (first | omega | (simp; done) | (simp; omega)))))⟩
theorem len_nil (w : World) : Calls Try.prog 16 #[.pointer none] w fun e w' => e = .returned (.int .i64 0) ∧ Below w.heap.size w w' := by
  go_enter Try.func16, Try.ntmps16
  go_wp2
  go_ret
  exact ⟨rfl, by (repeat (first | (with_reducible exact Below.refl _ _) | ((with_reducible refine below_alloc ?_ ?_ _); · (first | omega | (simp; done) | (simp; omega))) | ((with_reducible refine below_setCell ?_ ?_ _); · (first | omega | (simp; done) | (simp; omega))) | (with_reducible refine Below.drew ?_) | (with_reducible refine below_drewN ?_ _) | ((with_reducible refine below_call (by assumption) ?_ ?_); · (first | omega | (simp; done) | (simp; omega)))))⟩
theorem room_any (g h N : Nat) (L : List Int) (w : World) (H : IsR w g h N L) :
    Calls Try.prog 17 #[ptrV g] w fun e w' => e = .returned (.int .i64 ((N : Int) - L.length)) ∧ Below w.heap.size w w' := by
  obtain ⟨f, c, H, -⟩ := H
  have c0 := H.c0
  have c2 := H.c2
  have h1 := H.hN
  have h2 := H.hk
  have hw : IntKind.i64.wrap ((N : Int) - L.length) = (N : Int) - L.length := IntWalk.i64_in _ (by omega)
  clear H
  go_enter Try.func17, Try.ntmps17
  go_wp2
  go_quiet (fail)
  go_wp2
  go_ret
  exact ⟨rfl, by (repeat (first | (with_reducible exact Below.refl _ _) | ((with_reducible refine below_alloc ?_ ?_ _); · (first | omega | (simp; done) | (simp; omega))) | ((with_reducible refine below_setCell ?_ ?_ _); · (first | omega | (simp; done) | (simp; omega))) | (with_reducible refine Below.drew ?_) | (with_reducible refine below_drewN ?_ _) | ((with_reducible refine below_call (by assumption) ?_ ?_); · (first | omega | (simp; done) | (simp; omega)))))⟩
theorem room_nil (w : World) : Calls Try.prog 17 #[.pointer none] w fun e w' => e = .returned (.int .i64 0) ∧ Below w.heap.size w w' := by
  go_enter Try.func17, Try.ntmps17
  go_wp2
  go_ret
  exact ⟨rfl, by (repeat (first | (with_reducible exact Below.refl _ _) | ((with_reducible refine below_alloc ?_ ?_ _); · (first | omega | (simp; done) | (simp; omega))) | ((with_reducible refine below_setCell ?_ ?_ _); · (first | omega | (simp; done) | (simp; omega))) | (with_reducible refine Below.drew ?_) | (with_reducible refine below_drewN ?_ _) | ((with_reducible refine below_call (by assumption) ?_ ?_); · (first | omega | (simp; done) | (simp; omega)))))⟩
end Go.Proofs.Ytphgilgmoeliaaa
