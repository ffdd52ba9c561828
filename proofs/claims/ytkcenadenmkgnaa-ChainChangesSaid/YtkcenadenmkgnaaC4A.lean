/- My own small kit of layer 4: lists by links, the document's and the program's; contracts: in, is. -/
import Derived.Test.YtkcenadenmkgnaaKitI
import Derived.Lib.Hide
import Derived.Deep.QuietTactic
import Derived.BigQuiet
namespace Go.Proofs.Ytkcenadenmkgnaa
open Go.RowKit
set_option linter.unusedVariables false
set_option linter.unusedSimpArgs false

/-- a place: its list, the place behind it, the one ahead -/
abbrev Nod := Int × Int × Int
def nodVs (c : Nod) : List Value := [.int .i64 c.1, .int .i64 c.2.1, .int .i64 c.2.2]
abbrev nodV (c : Nod) : Value := .agg #[.int .i64 c.1, .int .i64 c.2.1, .int .i64 c.2.2]
/-- places, heads, tails -/
abbrev LSt := List Nod × List Int × List Int
/-- v is a slice that reads as these places -/
def IsN (w : World) (v : Value) (l : List Nod) : Prop :=
  ∃ p cap, v = .slice p l.length cap ∧ ∀ j (h : j < l.length), ∃ b off, p = some ⟨b, off, none⟩ ∧
    w.cell? ⟨b, off + j * 3, none⟩ = some (.int .i64 l[j].1) ∧ w.cell? ⟨b, off + j * 3 + 1, none⟩ = some (.int .i64 l[j].2.1) ∧ w.cell? ⟨b, off + j * 3 + 2, none⟩ = some (.int .i64 l[j].2.2)
theorem IsN.call {W w1 : World} {v : Value} {l : List Nod} (h : IsN W v l) (hb : Below W.heap.size W w1) : IsN w1 v l := by
  obtain ⟨p, cap, rfl, h⟩ := h
  refine ⟨p, cap, rfl, fun j hj => ?_⟩
  obtain ⟨b, off, rfl, h0, h1, h2⟩ := h j hj
  exact ⟨b, off, rfl, (hb.cell (p := ⟨b, off + j * 3, none⟩) (World.block_lt_of_cell? _ _ h0)).trans h0, (hb.cell (p := ⟨b, off + j * 3 + 1, none⟩) (World.block_lt_of_cell? _ _ h1)).trans h1, (hb.cell (p := ⟨b, off + j * 3 + 2, none⟩) (World.block_lt_of_cell? _ _ h2)).trans h2⟩
/-- a state that can be read -/
def IsLS (w : World) (vn vh vt : Value) (st : LSt) : Prop := IsN w vn st.1 ∧ IsI w vh st.2.1 ∧ IsI w vt st.2.2
theorem IsLS.call {W w1 : World} {vn vh vt : Value} {st : LSt} (h : IsLS W vn vh vt st) (hb : Below W.heap.size W w1) : IsLS w1 vn vh vt st := ⟨h.1.call hb, h.2.1.call hb, h.2.2.call hb⟩

theorem stopHere {p : Prop} (h : p ∧ True) : p := h.1
/-- a world under a name, with what is known of it -/
theorem gen_world {P : Program} {C : Code} {Q : Exit → Act → World → Prop} {a : Act} {W : World} (F : World → Prop) (hF : F W) (h : ∀ wt, F wt → Code.wp P C Q a wt) : Code.wp P C Q a W := h W hF
/-- all that lay in W lies in w as it did -/
def Fr (W w : World) : Prop := Below W.heap.size W w
theorem Fr.refl (W : World) : Fr W W := Below.refl _ _
theorem Fr.call {W w w1 : World} (h : Fr W w) (hb : Below w.heap.size w w1) : Fr W w1 := Below.trans h (hb.mono (Below.size h))
theorem Fr.fin {w W w' : World} (hB : Below w.heap.size w W) (h : Fr W w') : Below w.heap.size w w' := Below.trans hB (Below.mono h (Below.size hB))
theorem Fr.at {W w : World} (h : Fr W w) {b o : Nat} {v : Value} (hv : W.cell? ⟨b, o, none⟩ = some v) : w.cell? ⟨b, o, none⟩ = some v := (Below.cell h (p := ⟨b, o, none⟩) (World.block_lt_of_cell? _ _ hv)).trans hv

def inB (n a b : Int) : Bool := decide (a ≤ n) && decide (n ≤ b)
theorem inB_iff {n a b : Int} : inB n a b = true ↔ a ≤ n ∧ n ≤ b := by unfold inB; simp
theorem in_any (n a b : Int) (w : World) : Calls Try.prog 39 #[.int .i64 n, .int .i64 a, .int .i64 b] w fun e w' => e = .returned (.bool (inB n a b)) ∧ Below w.heap.size w w' := by
  by_cases h1 : a ≤ n
  · have HN : Hid (inB n a b = decide (n ≤ b)) := Lib.hid (by simp [inB, h1])
    go_enter Try.func39, Try.ntmps39
    go_wp2
    go_ret
    exact ⟨ret_bool HN.out.symm, by (repeat (first | (with_reducible exact Below.refl _ _) | ((with_reducible refine below_alloc ?_ ?_ _); · (first | omega | (simp; done) | (simp; omega))) | ((with_reducible refine below_setCell ?_ ?_ _); · (first | omega | (simp; done) | (simp; omega))) | (with_reducible refine Below.drew ?_) | (with_reducible refine below_drewN ?_ _) | ((with_reducible refine below_call (by assumption) ?_ ?_); · (first | omega | (simp; done) | (simp; omega)))))⟩
  · have h1' : n < a := by omega
    have HN : Hid (inB n a b = false) := Lib.hid (by simp [inB, h1])
    clear h1
    go_enter Try.func39, Try.ntmps39
    go_wp2
    go_ret
    exact ⟨ret_bool (by first | exact HN.out.symm | (rw [HN.out]; simp; omega)), by (repeat (first | (with_reducible exact Below.refl _ _) | ((with_reducible refine below_alloc ?_ ?_ _); · (first | omega | (simp; done) | (simp; omega))) | ((with_reducible refine below_setCell ?_ ?_ _); · (first | omega | (simp; done) | (simp; omega))) | (with_reducible refine Below.drew ?_) | (with_reducible refine below_drewN ?_ _) | ((with_reducible refine below_call (by assumption) ?_ ?_); · (first | omega | (simp; done) | (simp; omega)))))⟩
/-- is there such a list? -/
def isB (st : LSt) (i : Int) : Bool := inB i 0 (st.2.1.length - 1)
theorem is_any (vn vh vt : Value) (st : LSt) (i : Int) (w : World) (hv : IsLS w vn vh vt st) (hl : st.2.1.length ≤ 1048576) :
    Calls Try.prog 38 #[.agg #[vn, vh, vt], .int .i64 i] w fun e w' => e = .returned (.bool (isB st i)) ∧ Below w.heap.size w w' := by
  obtain ⟨l, hd, tl⟩ := st
  replace hl : hd.length ≤ 1048576 := hl
  obtain ⟨-, ⟨ph, ch, rfl, -⟩, -⟩ := hv
  have c := fun W => in_any i 0 ((hd.length : Int) - 1) W
  have HN : Hid (isB (l, hd, tl) i = inB i 0 ((hd.length : Int) - 1)) := Lib.hid rfl
  have hw : IntKind.i64.wrap ((hd.length : Int) - 1) = (hd.length : Int) - 1 := IntWalk.i64_in _ (by omega)
  have hl' : (hd.length : Int) ≤ 1048576 := by omega
  go_enter Try.func38, Try.ntmps38
  go_wp2_with fail
  refine (c _).mono ?_; rintro e w1 ⟨rfl, hb1⟩
  go_wp2_with fail
  go_ret
  exact ⟨ret_bool HN.out.symm, by (repeat (first | (with_reducible exact Below.refl _ _) | ((with_reducible refine below_alloc ?_ ?_ _); · (first | omega | (simp; done) | (simp; omega))) | ((with_reducible refine below_setCell ?_ ?_ _); · (first | omega | (simp; done) | (simp; omega))) | (with_reducible refine Below.drew ?_) | (with_reducible refine below_drewN ?_ _) | ((with_reducible refine below_call (by assumption) ?_ ?_); · (first | omega | (simp; done) | (simp; omega)))))⟩
end Go.Proofs.Ytkcenadenmkgnaa
