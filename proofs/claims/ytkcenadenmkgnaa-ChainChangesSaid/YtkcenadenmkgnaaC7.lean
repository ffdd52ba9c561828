/- Layer 4: boxes that hold a state; the closed call that each statement ends with: it is true. -/
import Derived.Test.YtkcenadenmkgnaaC5S
import Derived.Test.YtkcenadenmkgnaaC5T
import Derived.Test.YtkcenadenmkgnaaC5U
import Derived.Test.YtkcenadenmkgnaaC5I
import Derived.Test.YtkcenadenmkgnaaC5K
import Derived.Test.YtkcenadenmkgnaaSameI
import Derived.Deep.AppendLies
namespace Go.Proofs.Ytkcenadenmkgnaa
open Go.RowKit
set_option linter.unusedVariables false
set_option linter.unusedSimpArgs false

/-- u does not lie in block g -/
def Off (g : Nat) (u : Value) : Prop := ∀ b o s n c, u = .slice (some ⟨b, o, s⟩) n c → b ≠ g
def Off3 (g : Nat) (vn vh vt : Value) : Prop := Off g vn ∧ Off g vh ∧ Off g vt
theorem IsI.off {w : World} {g o : Nat} {u x : Value} {l : List Int} (h : IsI w u l) (hn : Off g u) : IsI (w.setCell ⟨g, o, none⟩ x) u l := by
  obtain ⟨p, cap, rfl, h⟩ := h
  refine ⟨p, cap, rfl, fun j hj => ?_⟩
  obtain ⟨b, off, rfl, hc⟩ := h j hj
  have hb := hn b off none _ _ rfl
  exact ⟨b, off, rfl, by rw [World.cell?_setCell_other _ _ _ _ (by intro e; have := congrArg Addr.block e; first | exact hb this | exact hb this.symm)]; exact hc⟩
theorem IsN.off {w : World} {g o : Nat} {u x : Value} {l : List Nod} (h : IsN w u l) (hn : Off g u) : IsN (w.setCell ⟨g, o, none⟩ x) u l := by
  obtain ⟨p, cap, rfl, h⟩ := h
  refine ⟨p, cap, rfl, fun j hj => ?_⟩
  obtain ⟨b, off, rfl, h0, h1, h2⟩ := h j hj
  have hb := hn b off none _ _ rfl
  exact ⟨b, off, rfl, by rw [World.cell?_setCell_other _ _ _ _ (by intro e; have := congrArg Addr.block e; first | exact hb this | exact hb this.symm)]; exact h0, by rw [World.cell?_setCell_other _ _ _ _ (by intro e; have := congrArg Addr.block e; first | exact hb this | exact hb this.symm)]; exact h1, by rw [World.cell?_setCell_other _ _ _ _ (by intro e; have := congrArg Addr.block e; first | exact hb this | exact hb this.symm)]; exact h2⟩
theorem IsLS.off {w : World} {g o : Nat} {vn vh vt x : Value} {st : LSt} (h : IsLS w vn vh vt st) (hn : Off3 g vn vh vt) : IsLS (w.setCell ⟨g, o, none⟩ x) vn vh vt st := ⟨IsN.off h.1 hn.1, IsI.off h.2.1 hn.2.1, IsI.off h.2.2 hn.2.2⟩
theorem NewLS.reads {w : World} {B : Nat} {vn vh vt : Value} {st : LSt} (h : NewLS w B vn vh vt st) : IsLS w vn vh vt st := by
  obtain ⟨n, k, gn, gh, gt, cn, ch, ct, rfl, rfl, rfl, h⟩ := h
  exact h.reads
theorem NewLS.off_hi {w : World} {B g : Nat} {vn vh vt : Value} {st : LSt} (h : NewLS w B vn vh vt st) (hg : w.heap.size ≤ g) : Off3 g vn vh vt := by
  obtain ⟨n, k, gn, gh, gt, cn, ch, ct, rfl, rfl, rfl, h⟩ := h
  obtain ⟨⟨_, a⟩, ⟨_, b⟩, ⟨_, c⟩⟩ := h.lt
  exact ⟨fun b o s n c e => by cases e; omega, fun b o s n c e => by cases e; omega, fun b o s n c e => by cases e; omega⟩
theorem NewLS.off_lo {w : World} {B g : Nat} {vn vh vt : Value} {st : LSt} (h : NewLS w B vn vh vt st) (hg : g < B) : Off3 g vn vh vt := by
  obtain ⟨n, k, gn, gh, gt, cn, ch, ct, rfl, rfl, rfl, h⟩ := h
  obtain ⟨⟨a, _⟩, ⟨b, _⟩, ⟨c, _⟩⟩ := h.lt
  exact ⟨fun b o s n c e => by cases e; omega, fun b o s n c e => by cases e; omega, fun b o s n c e => by cases e; omega⟩
theorem OutLS.rd {w : World} {B : Nat} {wn wh wt vn vh vt : Value} {s0 st : LSt} (h : OutLS w B wn wh wt s0 vn vh vt st) (h0 : IsLS w wn wh wt s0) : IsLS w vn vh vt st := OutLS.reads (W := w) h h0
theorem OutLS.off {w : World} {B g : Nat} {wn wh wt vn vh vt : Value} {s0 st : LSt} (h : OutLS w B wn wh wt s0 vn vh vt st) (h0 : Off3 g wn wh wt) (hg : g < B) : Off3 g vn vh vt := by
  rcases h with ⟨rfl, rfl, rfl, -⟩ | h
  · exact h0
  · exact h.off_lo hg
/-- block b holds this state -/
structure Bs (w : World) (b : Nat) (vn vh vt : Value) (st : LSt) : Prop where
  c : w.cell? ⟨b, 0, none⟩ = some vn ∧ w.cell? ⟨b, 1, none⟩ = some vh ∧ w.cell? ⟨b, 2, none⟩ = some vt
  z : ∀ o, w.frozen? ⟨b, o, none⟩ = false
  s : IsLS w vn vh vt st
theorem Bs.lt {w : World} {b : Nat} {vn vh vt : Value} {st : LSt} (h : Bs w b vn vh vt st) : b < w.heap.size := World.block_lt_of_cell? _ _ h.c.1
theorem Bs.call {w w1 : World} {b : Nat} {vn vh vt : Value} {st : LSt} (h : Bs w b vn vh vt st) (hb : Below w.heap.size w w1) : Bs w1 b vn vh vt st :=
  ⟨⟨(hb.cell (p := ⟨b, 0, none⟩) h.lt).trans h.c.1, (hb.cell (p := ⟨b, 1, none⟩) h.lt).trans h.c.2.1, (hb.cell (p := ⟨b, 2, none⟩) h.lt).trans h.c.2.2⟩, fun o => (hb.frozen (p := ⟨b, o, none⟩) h.lt).trans (h.z o), h.s.call hb⟩
theorem Bs.new {w : World} {vn vh vt : Value} {st : LSt} (h : IsLS w vn vh vt st) (T : TypeId) : Bs (w.alloc (.cells #[vn, vh, vt] T)) w.heap.size vn vh vt st :=
  ⟨⟨by simp [go_sem], by simp [go_sem], by simp [go_sem]⟩, fun o => by simp [go_sem], h.call ((Below.refl _ _).alloc (Nat.le_refl _) _)⟩
theorem Bs.put {w : World} {b : Nat} {vn vh vt un uh ut : Value} {st s' : LSt} (h : Bs w b vn vh vt st) (hs : IsLS w un uh ut s') (ho : Off3 b un uh ut) : Bs (((w.setCell ⟨b, 0, none⟩ un).setCell ⟨b, 1, none⟩ uh).setCell ⟨b, 2, none⟩ ut) b un uh ut s' := by
  obtain ⟨⟨c0, c1, c2⟩, z, -⟩ := h
  exact ⟨⟨by simp [go_sem, c0], by simp [go_sem, c1], by simp [go_sem, c2]⟩, fun o => by simp [z], ((hs.off ho).off ho).off ho⟩
theorem nums_new {w : World} (l : List Int) (T : TypeId) : IsI (w.alloc (.cells (l.map (Value.int .i64)).toArray T)) (.slice (some ⟨w.heap.size, 0, none⟩) l.length l.length) l := by
  refine ⟨_, l.length, rfl, fun j hj => ⟨w.heap.size, 0, rfl, ?_⟩⟩
  have h := World.news_of_block (heap_alloc_new w (.cells (l.map (Value.int .i64)).toArray T)) j (.int .i64 l[j]) (by simp [hj])
  rwa [Addr.add_lit] at h
def awA0 : LSt := newS 4 2
def awA1 : LSt := pushS awA0 0 3
def awA2 : LSt := pushS awA1 0 1
def awA3 : LSt := pushS awA2 1 2
def awB : LSt := turnS awA3 0
def awC : LSt := splS awA3 1 0
def awD : LSt := unlS awC 1
theorem aw_ex : ∃ A0 A1 A2 A3 B C D : LSt, newE 4 2 = 0 ∧ newR 4 2 = A0 ∧ pushE A0 0 3 = 0 ∧ pushS A0 0 3 = A1 ∧ pushE A1 0 1 = 0 ∧ pushS A1 0 1 = A2 ∧ pushE A2 1 2 = 0 ∧ pushS A2 1 2 = A3 ∧ pushE A3 1 3 = 13 ∧ turnS A3 0 = B ∧ splE A3 1 0 = 0 ∧ splS A3 1 0 = C ∧ unlE C 1 = 0 ∧ unlS C 1 = D ∧ unlE D 1 = 6 ∧ walkL A3 0 = [3, 1] ∧ walkL B 0 = [1, 3] ∧ (walkL C 0).reverse = [2, 1, 3] ∧ walkL D 0 = [3, 2] ∧ frontL D 0 = 3 ∧ frontL D 1 = -1 ∧ ((walkL C 0).length : Int) = 3 ∧ chkL D = 0 ∧ chkL ([], [], []) = 5 ∧ sameLB C D = false ∧ sameLB D D = true ∧ ((A0.1.length ≤ 4 ∧ A0.2.1.length ≤ 4) ∧ A0.2.2.length ≤ 4) ∧ ((A1.1.length ≤ 4 ∧ A1.2.1.length ≤ 4) ∧ A1.2.2.length ≤ 4) ∧ ((A2.1.length ≤ 4 ∧ A2.2.1.length ≤ 4) ∧ A2.2.2.length ≤ 4) ∧ ((A3.1.length ≤ 4 ∧ A3.2.1.length ≤ 4) ∧ A3.2.2.length ≤ 4) ∧ ((B.1.length ≤ 4 ∧ B.2.1.length ≤ 4) ∧ B.2.2.length ≤ 4) ∧ ((C.1.length ≤ 4 ∧ C.2.1.length ≤ 4) ∧ C.2.2.length ≤ 4) ∧ ((D.1.length ≤ 4 ∧ D.2.1.length ≤ 4) ∧ D.2.2.length ≤ 4) :=
  ⟨awA0, awA1, awA2, awA3, awB, awC, awD, by decide +kernel, by decide +kernel, by decide +kernel, by decide +kernel, by decide +kernel, by decide +kernel, by decide +kernel, by decide +kernel, by decide +kernel, by decide +kernel, by decide +kernel, by decide +kernel, by decide +kernel, by decide +kernel, by decide +kernel, by decide +kernel, by decide +kernel, by decide +kernel, by decide +kernel, by decide +kernel, by decide +kernel, by decide +kernel, by decide +kernel, by decide +kernel, by decide +kernel, by decide +kernel, by decide +kernel, by decide +kernel, by decide +kernel, by decide +kernel, by decide +kernel, by decide +kernel, by decide +kernel⟩

set_option maxRecDepth 100000 in
set_option maxHeartbeats 16000000 in
theorem awake_any (w : World) : Calls Try.prog 8 #[] w fun e w' => e = .returned (.bool true) ∧ Below w.heap.size w w' := by
  obtain ⟨A0, A1, A2, A3, B, C, D, h0, h1, h2, h3, h4, h5, h6, h7, h8, h9, h10, h11, h12, h13, h14, h15, h16, h17, h18, h19, h20, h21, h22, h23, h24, h25, lA0, lA1, lA2, lA3, lB, lC, lD⟩ := aw_ex
  have c1 := fun W => new_any 4 2 W
  rw [h0, h1] at c1
  have C1 := Lib.hid c1
  clear c1
  have c2 := fun vn vh vt W (hv : IsLS W vn vh vt A0) => push_any vn vh vt A0 0 3 W hv (by omega) (by omega) (by omega)
  rw [h2, h3] at c2
  have C2 := Lib.hid c2
  clear c2
  have c3 := fun vn vh vt W (hv : IsLS W vn vh vt A1) => push_any vn vh vt A1 0 1 W hv (by omega) (by omega) (by omega)
  rw [h4, h5] at c3
  have C3 := Lib.hid c3
  clear c3
  have c4 := fun vn vh vt W (hv : IsLS W vn vh vt A2) => push_any vn vh vt A2 1 2 W hv (by omega) (by omega) (by omega)
  rw [h6, h7] at c4
  have C4 := Lib.hid c4
  clear c4
  have c5 := fun vn vh vt W (hv : IsLS W vn vh vt A3) => push_any vn vh vt A3 1 3 W hv (by omega) (by omega) (by omega)
  rw [h8] at c5
  have C5 := Lib.hid c5
  clear c5
  have c6 := fun vn vh vt W (hv : IsLS W vn vh vt A3) => turn_any vn vh vt A3 0 W hv (by omega) (by omega) (by omega)
  rw [h9] at c6
  have C6 := Lib.hid c6
  clear c6
  have c7 := fun vn vh vt W (hv : IsLS W vn vh vt A3) => splice_any vn vh vt A3 1 0 W hv (by omega) (by omega) (by omega)
  rw [h10, h11] at c7
  have C7 := Lib.hid c7
  clear c7
  have c8 := fun vn vh vt W (hv : IsLS W vn vh vt C) => unlink_any vn vh vt C 1 W hv (by omega) (by omega) (by omega)
  rw [h12, h13] at c8
  have C8 := Lib.hid c8
  clear c8
  have c9 := fun vn vh vt W (hv : IsLS W vn vh vt D) => unlink_any vn vh vt D 1 W hv (by omega) (by omega) (by omega)
  rw [h14] at c9
  have C9 := Lib.hid c9
  clear c9
  have d1 := fun vn vh vt W (hv : IsLS W vn vh vt A3) => walk4_any vn vh vt A3 0 W hv (by omega) (by omega) (by omega)
  rw [h15] at d1
  have D1 := Lib.hid d1
  clear d1
  have d2 := fun vn vh vt W (hv : IsLS W vn vh vt B) => walk4_any vn vh vt B 0 W hv (by omega) (by omega) (by omega)
  rw [h16] at d2
  have D2 := Lib.hid d2
  clear d2
  have d3 := fun vn vh vt W (hv : IsLS W vn vh vt C) => back_any vn vh vt C 0 W hv (by omega) (by omega) (by omega)
  rw [h17] at d3
  have D3 := Lib.hid d3
  clear d3
  have d4 := fun vn vh vt W (hv : IsLS W vn vh vt D) => walk4_any vn vh vt D 0 W hv (by omega) (by omega) (by omega)
  rw [h18] at d4
  have D4 := Lib.hid d4
  clear d4
  have d5 := fun vn vh vt W (hv : IsLS W vn vh vt D) => front_any vn vh vt D 0 W hv (by omega) (by omega) (by omega)
  rw [h19] at d5
  have D5 := Lib.hid d5
  clear d5
  have d6 := fun vn vh vt W (hv : IsLS W vn vh vt D) => front_any vn vh vt D 1 W hv (by omega) (by omega) (by omega)
  rw [h20] at d6
  have D6 := Lib.hid d6
  clear d6
  have d7 := fun vn vh vt W (hv : IsLS W vn vh vt C) => len_any vn vh vt C 0 W hv (by omega) (by omega) (by omega)
  rw [h21] at d7
  have D7 := Lib.hid d7
  clear d7
  have d8 := fun vn vh vt W (hv : IsLS W vn vh vt D) => chk_any vn vh vt D W hv (by omega) (by omega) (by omega)
  rw [h22] at d8
  have D8 := Lib.hid d8
  clear d8
  have d9 := fun W => chk_any _ _ _ ([], [], []) W (nil_reads W) (by decide) (by decide) (by decide)
  rw [h23] at d9
  have D9 := Lib.hid d9
  clear d9
  have f1 := fun vn vh vt un uh ut W (hv : IsLS W vn vh vt C) (hu : IsLS W un uh ut D) => same4_any vn vh vt un uh ut C D W hv hu (by omega) (by omega) (by omega) (by omega)
  rw [h24] at f1
  have F1 := Lib.hid f1
  clear f1
  have f2 := fun vn vh vt un uh ut W (hv : IsLS W vn vh vt D) (hu : IsLS W un uh ut D) => same4_any vn vh vt un uh ut D D W hv hu (by omega) (by omega) (by omega) (by omega)
  rw [h25] at f2
  have F2 := Lib.hid f2
  clear f2
  have si := fun v1 v2 (l : List Int) (hl : l.length ≤ 4) W (hv : IsI W v1 l) (hu : IsI W v2 l) => sameInts_any v1 v2 l l W hv hu (by omega)
  simp only [sameIB_self] at si
  have SI := Lib.hid si
  clear si
  clear h0 h1 h2 h3 h4 h5 h6 h7 h8 h9 h10 h11 h12 h13 h14 h15 h16 h17 h18 h19 h20 h21 h22 h23 h24 h25 lA0 lA1 lA2 lA3 lB lC lD
  go_enter Try.func8, Try.ntmps8
  go_wp2_with fail
  refine (C1.out _).mono ?_; rintro e w1 ⟨na, ha, ta, rfl, hI, hN, hb1⟩
  have hN := hN trivial
  have ho := hN.off_hi (g := w1.heap.size) (Nat.le_refl _)
  have HI := Lib.hid hI
  have HO := Lib.hid ho
  have HBW := Lib.hid hb1
  clear hI hN ho
  obtain ⟨⟨p0, q0, rfl, -⟩, ⟨p1, q1, rfl, -⟩, ⟨p2, q2, rfl, -⟩⟩ := id HI.out
  go_wp2_with fail
  have Na := Bs.new HI.out 30
  have hba : w.heap.size ≤ w1.heap.size := HBW.out.size
  have NB : Below w.heap.size w (w1.alloc (.cells #[.slice p0 A0.1.length q0, .slice p1 A0.2.1.length q1, .slice p2 A0.2.2.length q2] 30)) := by have h := HBW.out; (repeat (first | (with_reducible exact Below.refl _ _) | ((with_reducible refine below_alloc ?_ ?_ _); · (first | omega | (simp; done) | (simp; omega))) | ((with_reducible refine below_setCell ?_ ?_ _); · (first | omega | (simp; done) | (simp; omega))) | (with_reducible refine Below.drew ?_) | (with_reducible refine below_drewN ?_ _) | ((with_reducible refine below_call (by assumption) ?_ ?_); · (first | omega | (simp; done) | (simp; omega)))))
  clear hb1 HBW
  obtain ⟨ba, hbe⟩ : ∃ b, w1.heap.size = b := ⟨_, rfl⟩
  rw [hbe] at Na HO ⊢
  have hba' : w.heap.size ≤ ba := by omega
  clear hbe hba
  refine gen_calls (F := fun W => Bs W ba (.slice p0 A0.1.length q0) (.slice p1 A0.2.1.length q1) (.slice p2 A0.2.2.length q2) A0 ∧ Below w.heap.size w W) ⟨Na, NB⟩ (fun W hF => ?_)
  obtain ⟨xa, hB⟩ := hF
  have Xa := Lib.hid xa
  have HB := Lib.hid hB
  clear xa Na hB NB HI
  have lt2 := Xa.out.lt
  refine (C2.out _ _ _ _ Xa.out.s).mono ?_; rintro e w2 ⟨na, ha, ta, rfl, ho, hb2⟩
  have Ya := Lib.hid (Xa.out.call hb2)
  have HI := Lib.hid (ho.rd (Xa.out.s.call hb2))
  have HO2 := Lib.hid (ho.off HO.out lt2)
  have HB2 := Lib.hid (HB.out.trans (hb2.mono HB.out.size))
  clear ho hb2 Xa HB HO lt2
  obtain ⟨⟨e0, e1, e2⟩, za, -⟩ := id Ya.out
  obtain ⟨⟨p0, q0, rfl, -⟩, ⟨p1, q1, rfl, -⟩, ⟨p2, q2, rfl, -⟩⟩ := id HI.out
  go_wp2_with fail
  have Na := Ya.out.put HI.out HO2.out
  have NB := below_at (below_at (below_at HB2.out (.slice p0 A1.1.length q0) (b := ba) (o := 0) hba') (.slice p1 A1.2.1.length q1) (b := ba) (o := 1) hba') (.slice p2 A1.2.2.length q2) (b := ba) (o := 2) hba'
  clear e0 e1 e2 za
  refine gen_calls (F := fun W => Bs W ba (.slice p0 A1.1.length q0) (.slice p1 A1.2.1.length q1) (.slice p2 A1.2.2.length q2) A1 ∧ Below w.heap.size w W) ⟨Na, NB⟩ (fun W hF => ?_)
  obtain ⟨xa, hB⟩ := hF
  have Xa := Lib.hid xa
  have HB := Lib.hid hB
  have HO := HO2
  clear xa Na hB NB HI Ya HB2 HO2
  have lt3 := Xa.out.lt
  refine (C3.out _ _ _ _ Xa.out.s).mono ?_; rintro e w3 ⟨na, ha, ta, rfl, ho, hb3⟩
  have Ya := Lib.hid (Xa.out.call hb3)
  have HI := Lib.hid (ho.rd (Xa.out.s.call hb3))
  have HO2 := Lib.hid (ho.off HO.out lt3)
  have HB2 := Lib.hid (HB.out.trans (hb3.mono HB.out.size))
  clear ho hb3 Xa HB HO lt3
  obtain ⟨⟨e0, e1, e2⟩, za, -⟩ := id Ya.out
  obtain ⟨⟨p0, q0, rfl, -⟩, ⟨p1, q1, rfl, -⟩, ⟨p2, q2, rfl, -⟩⟩ := id HI.out
  go_wp2_with fail
  have Na := Ya.out.put HI.out HO2.out
  have NB := below_at (below_at (below_at HB2.out (.slice p0 A2.1.length q0) (b := ba) (o := 0) hba') (.slice p1 A2.2.1.length q1) (b := ba) (o := 1) hba') (.slice p2 A2.2.2.length q2) (b := ba) (o := 2) hba'
  clear e0 e1 e2 za
  refine gen_calls (F := fun W => Bs W ba (.slice p0 A2.1.length q0) (.slice p1 A2.2.1.length q1) (.slice p2 A2.2.2.length q2) A2 ∧ Below w.heap.size w W) ⟨Na, NB⟩ (fun W hF => ?_)
  obtain ⟨xa, hB⟩ := hF
  have Xa := Lib.hid xa
  have HB := Lib.hid hB
  have HO := HO2
  clear xa Na hB NB HI Ya HB2 HO2
  have lt4 := Xa.out.lt
  refine (C4.out _ _ _ _ Xa.out.s).mono ?_; rintro e w4 ⟨na, ha, ta, rfl, ho, hb4⟩
  have Ya := Lib.hid (Xa.out.call hb4)
  have HI := Lib.hid (ho.rd (Xa.out.s.call hb4))
  have HO2 := Lib.hid (ho.off HO.out lt4)
  have HB2 := Lib.hid (HB.out.trans (hb4.mono HB.out.size))
  clear ho hb4 Xa HB HO lt4
  obtain ⟨⟨e0, e1, e2⟩, za, -⟩ := id Ya.out
  obtain ⟨⟨p0, q0, rfl, -⟩, ⟨p1, q1, rfl, -⟩, ⟨p2, q2, rfl, -⟩⟩ := id HI.out
  go_wp2_with fail
  have Na := Ya.out.put HI.out HO2.out
  have NB := below_at (below_at (below_at HB2.out (.slice p0 A3.1.length q0) (b := ba) (o := 0) hba') (.slice p1 A3.2.1.length q1) (b := ba) (o := 1) hba') (.slice p2 A3.2.2.length q2) (b := ba) (o := 2) hba'
  clear e0 e1 e2 za
  refine gen_calls (F := fun W => Bs W ba (.slice p0 A3.1.length q0) (.slice p1 A3.2.1.length q1) (.slice p2 A3.2.2.length q2) A3 ∧ Below w.heap.size w W) ⟨Na, NB⟩ (fun W hF => ?_)
  obtain ⟨xa, hB⟩ := hF
  have Xa := Lib.hid xa
  have HB := Lib.hid hB
  have HO := HO2
  clear xa Na hB NB HI Ya HB2 HO2
  refine (C5.out _ _ _ _ Xa.out.s).mono ?_; rintro e w5 ⟨un, uh, ut, rfl, ho, hb5⟩
  have HI := Lib.hid (ho.rd (Xa.out.s.call hb5))
  have Ya := Lib.hid (Xa.out.call hb5)
  have HB2 := Lib.hid (HB.out.trans (hb5.mono HB.out.size))
  clear ho hb5 HB Xa
  obtain ⟨⟨p0x, q0x, rfl, -⟩, ⟨p1x, q1x, rfl, -⟩, ⟨p2x, q2x, rfl, -⟩⟩ := id HI.out
  obtain ⟨⟨ea0, ea1, ea2⟩, -, -⟩ := id Ya.out
  have ga := Ya.out.lt
  go_wp2_with fail
  clear ea0 ea1 ea2 ga
  have hal : Below w5.heap.size w5 (w5.alloc (.cells #[.slice p0x (pushS A3 1 3).1.length q0x, .slice p1x (pushS A3 1 3).2.1.length q1x, .slice p2x (pushS A3 1 3).2.2.length q2x] 30)) := (Below.refl _ _).alloc (Nat.le_refl _) _
  have Na := Ya.out.call hal
  have Nx := Bs.new HI.out 30
  have NB := HB2.out.trans (hal.mono HB2.out.size)
  clear hal HB2 HI Ya
  obtain ⟨bx, hbe⟩ : ∃ b, w5.heap.size = b := ⟨_, rfl⟩
  rw [hbe] at Nx ⊢
  clear hbe
  refine gen_calls (F := fun W => (Bs W ba (.slice p0 A3.1.length q0) (.slice p1 A3.2.1.length q1) (.slice p2 A3.2.2.length q2) A3 ∧ Bs W bx (.slice p0x (pushS A3 1 3).1.length q0x) (.slice p1x (pushS A3 1 3).2.1.length q1x) (.slice p2x (pushS A3 1 3).2.2.length q2x) (pushS A3 1 3)) ∧  Below w.heap.size w W) ⟨⟨Na, Nx⟩,  NB⟩ (fun W hF => ?_)
  obtain ⟨⟨xa, xx⟩,  hB⟩ := hF
  have Xa := Lib.hid xa
  clear xa Na
  have Xx := Lib.hid xx
  clear xx Nx
  have HB := Lib.hid hB
  clear hB NB
  clear Xx
  refine (C6.out _ _ _ _ Xa.out.s).mono ?_; rintro e w6 ⟨un, uh, ut, rfl, ho, hb6⟩
  have HI := Lib.hid (ho.rd (Xa.out.s.call hb6))
  have Ya := Lib.hid (Xa.out.call hb6)
  have HB2 := Lib.hid (HB.out.trans (hb6.mono HB.out.size))
  clear ho hb6 HB Xa
  obtain ⟨⟨p0b, q0b, rfl, -⟩, ⟨p1b, q1b, rfl, -⟩, ⟨p2b, q2b, rfl, -⟩⟩ := id HI.out
  obtain ⟨⟨ea0, ea1, ea2⟩, -, -⟩ := id Ya.out
  have ga := Ya.out.lt
  go_wp2_with fail
  clear ea0 ea1 ea2 ga
  have hal : Below w6.heap.size w6 (w6.alloc (.cells #[.slice p0b B.1.length q0b, .slice p1b B.2.1.length q1b, .slice p2b B.2.2.length q2b] 30)) := (Below.refl _ _).alloc (Nat.le_refl _) _
  have Na := Ya.out.call hal
  have Nb := Bs.new HI.out 30
  have NB := HB2.out.trans (hal.mono HB2.out.size)
  clear hal HB2 HI Ya
  obtain ⟨bb, hbe⟩ : ∃ b, w6.heap.size = b := ⟨_, rfl⟩
  rw [hbe] at Nb ⊢
  clear hbe
  refine gen_calls (F := fun W => (Bs W ba (.slice p0 A3.1.length q0) (.slice p1 A3.2.1.length q1) (.slice p2 A3.2.2.length q2) A3 ∧ Bs W bb (.slice p0b B.1.length q0b) (.slice p1b B.2.1.length q1b) (.slice p2b B.2.2.length q2b) B) ∧  Below w.heap.size w W) ⟨⟨Na, Nb⟩,  NB⟩ (fun W hF => ?_)
  obtain ⟨⟨xa, xb⟩,  hB⟩ := hF
  have Xa := Lib.hid xa
  clear xa Na
  have Xb := Lib.hid xb
  clear xb Nb
  have HB := Lib.hid hB
  clear hB NB
  refine (C7.out _ _ _ _ Xa.out.s).mono ?_; rintro e w7 ⟨un, uh, ut, rfl, ho, hb7⟩
  have HI := Lib.hid (ho.rd (Xa.out.s.call hb7))
  have Ya := Lib.hid (Xa.out.call hb7)
  have Yb := Lib.hid (Xb.out.call hb7)
  have HB2 := Lib.hid (HB.out.trans (hb7.mono HB.out.size))
  clear ho hb7 HB Xa Xb
  obtain ⟨⟨p0c, q0c, rfl, -⟩, ⟨p1c, q1c, rfl, -⟩, ⟨p2c, q2c, rfl, -⟩⟩ := id HI.out
  obtain ⟨⟨ea0, ea1, ea2⟩, -, -⟩ := id Ya.out
  have ga := Ya.out.lt
  obtain ⟨⟨eb0, eb1, eb2⟩, -, -⟩ := id Yb.out
  have gb := Yb.out.lt
  go_wp2_with fail
  clear ea0 ea1 ea2 ga
  clear eb0 eb1 eb2 gb
  have hal : Below w7.heap.size w7 (w7.alloc (.cells #[.slice p0c C.1.length q0c, .slice p1c C.2.1.length q1c, .slice p2c C.2.2.length q2c] 30)) := (Below.refl _ _).alloc (Nat.le_refl _) _
  have Na := Ya.out.call hal
  have Nb := Yb.out.call hal
  have Nc := Bs.new HI.out 30
  have NB := HB2.out.trans (hal.mono HB2.out.size)
  clear hal HB2 HI Ya Yb
  obtain ⟨bc, hbe⟩ : ∃ b, w7.heap.size = b := ⟨_, rfl⟩
  rw [hbe] at Nc ⊢
  clear hbe
  refine gen_calls (F := fun W => (Bs W ba (.slice p0 A3.1.length q0) (.slice p1 A3.2.1.length q1) (.slice p2 A3.2.2.length q2) A3 ∧ Bs W bb (.slice p0b B.1.length q0b) (.slice p1b B.2.1.length q1b) (.slice p2b B.2.2.length q2b) B ∧ Bs W bc (.slice p0c C.1.length q0c) (.slice p1c C.2.1.length q1c) (.slice p2c C.2.2.length q2c) C) ∧  Below w.heap.size w W) ⟨⟨Na, Nb, Nc⟩,  NB⟩ (fun W hF => ?_)
  obtain ⟨⟨xa, xb, xc⟩,  hB⟩ := hF
  have Xa := Lib.hid xa
  clear xa Na
  have Xb := Lib.hid xb
  clear xb Nb
  have Xc := Lib.hid xc
  clear xc Nc
  have HB := Lib.hid hB
  clear hB NB
  refine (C8.out _ _ _ _ Xc.out.s).mono ?_; rintro e w8 ⟨un, uh, ut, rfl, ho, hb8⟩
  have HI := Lib.hid (ho.rd (Xc.out.s.call hb8))
  have Ya := Lib.hid (Xa.out.call hb8)
  have Yb := Lib.hid (Xb.out.call hb8)
  have Yc := Lib.hid (Xc.out.call hb8)
  have HB2 := Lib.hid (HB.out.trans (hb8.mono HB.out.size))
  clear ho hb8 HB Xa Xb Xc
  obtain ⟨⟨p0d, q0d, rfl, -⟩, ⟨p1d, q1d, rfl, -⟩, ⟨p2d, q2d, rfl, -⟩⟩ := id HI.out
  obtain ⟨⟨ea0, ea1, ea2⟩, -, -⟩ := id Ya.out
  have ga := Ya.out.lt
  obtain ⟨⟨eb0, eb1, eb2⟩, -, -⟩ := id Yb.out
  have gb := Yb.out.lt
  obtain ⟨⟨ec0, ec1, ec2⟩, -, -⟩ := id Yc.out
  have gc := Yc.out.lt
  go_wp2_with fail
  clear ea0 ea1 ea2 ga
  clear eb0 eb1 eb2 gb
  clear ec0 ec1 ec2 gc
  have hal : Below w8.heap.size w8 (w8.alloc (.cells #[.slice p0d D.1.length q0d, .slice p1d D.2.1.length q1d, .slice p2d D.2.2.length q2d] 30)) := (Below.refl _ _).alloc (Nat.le_refl _) _
  have Na := Ya.out.call hal
  have Nb := Yb.out.call hal
  have Nc := Yc.out.call hal
  have Nd := Bs.new HI.out 30
  have NB := HB2.out.trans (hal.mono HB2.out.size)
  clear hal HB2 HI Ya Yb Yc
  obtain ⟨bd, hbe⟩ : ∃ b, w8.heap.size = b := ⟨_, rfl⟩
  rw [hbe] at Nd ⊢
  clear hbe
  refine gen_calls (F := fun W => (Bs W ba (.slice p0 A3.1.length q0) (.slice p1 A3.2.1.length q1) (.slice p2 A3.2.2.length q2) A3 ∧ Bs W bb (.slice p0b B.1.length q0b) (.slice p1b B.2.1.length q1b) (.slice p2b B.2.2.length q2b) B ∧ Bs W bc (.slice p0c C.1.length q0c) (.slice p1c C.2.1.length q1c) (.slice p2c C.2.2.length q2c) C ∧ Bs W bd (.slice p0d D.1.length q0d) (.slice p1d D.2.1.length q1d) (.slice p2d D.2.2.length q2d) D) ∧  Below w.heap.size w W) ⟨⟨Na, Nb, Nc, Nd⟩,  NB⟩ (fun W hF => ?_)
  obtain ⟨⟨xa, xb, xc, xd⟩,  hB⟩ := hF
  have Xa := Lib.hid xa
  clear xa Na
  have Xb := Lib.hid xb
  clear xb Nb
  have Xc := Lib.hid xc
  clear xc Nc
  have Xd := Lib.hid xd
  clear xd Nd
  have HB := Lib.hid hB
  clear hB NB
  refine (C9.out _ _ _ _ Xd.out.s).mono ?_; rintro e w9 ⟨un, uh, ut, rfl, ho, hb9⟩
  have HI := Lib.hid (ho.rd (Xd.out.s.call hb9))
  have Ya := Lib.hid (Xa.out.call hb9)
  have Yb := Lib.hid (Xb.out.call hb9)
  have Yc := Lib.hid (Xc.out.call hb9)
  have Yd := Lib.hid (Xd.out.call hb9)
  have HB2 := Lib.hid (HB.out.trans (hb9.mono HB.out.size))
  clear ho hb9 HB Xa Xb Xc Xd
  obtain ⟨⟨p0u, q0u, rfl, -⟩, ⟨p1u, q1u, rfl, -⟩, ⟨p2u, q2u, rfl, -⟩⟩ := id HI.out
  obtain ⟨⟨ea0, ea1, ea2⟩, -, -⟩ := id Ya.out
  have ga := Ya.out.lt
  obtain ⟨⟨eb0, eb1, eb2⟩, -, -⟩ := id Yb.out
  have gb := Yb.out.lt
  obtain ⟨⟨ec0, ec1, ec2⟩, -, -⟩ := id Yc.out
  have gc := Yc.out.lt
  obtain ⟨⟨ed0, ed1, ed2⟩, -, -⟩ := id Yd.out
  have gd := Yd.out.lt
  go_wp2_with fail
  clear ea0 ea1 ea2 ga
  clear eb0 eb1 eb2 gb
  clear ec0 ec1 ec2 gc
  clear ed0 ed1 ed2 gd
  have hal : Below w9.heap.size w9 (w9.alloc (.cells #[.slice p0u (unlS D 1).1.length q0u, .slice p1u (unlS D 1).2.1.length q1u, .slice p2u (unlS D 1).2.2.length q2u] 30)) := (Below.refl _ _).alloc (Nat.le_refl _) _
  have Na := Ya.out.call hal
  have Nb := Yb.out.call hal
  have Nc := Yc.out.call hal
  have Nd := Yd.out.call hal
  have Nu := Bs.new HI.out 30
  have NB := HB2.out.trans (hal.mono HB2.out.size)
  clear hal HB2 HI Ya Yb Yc Yd
  obtain ⟨bu, hbe⟩ : ∃ b, w9.heap.size = b := ⟨_, rfl⟩
  rw [hbe] at Nu ⊢
  clear hbe
  refine gen_calls (F := fun W => (Bs W ba (.slice p0 A3.1.length q0) (.slice p1 A3.2.1.length q1) (.slice p2 A3.2.2.length q2) A3 ∧ Bs W bb (.slice p0b B.1.length q0b) (.slice p1b B.2.1.length q1b) (.slice p2b B.2.2.length q2b) B ∧ Bs W bc (.slice p0c C.1.length q0c) (.slice p1c C.2.1.length q1c) (.slice p2c C.2.2.length q2c) C ∧ Bs W bd (.slice p0d D.1.length q0d) (.slice p1d D.2.1.length q1d) (.slice p2d D.2.2.length q2d) D ∧ Bs W bu (.slice p0u (unlS D 1).1.length q0u) (.slice p1u (unlS D 1).2.1.length q1u) (.slice p2u (unlS D 1).2.2.length q2u) (unlS D 1)) ∧  Below w.heap.size w W) ⟨⟨Na, Nb, Nc, Nd, Nu⟩,  NB⟩ (fun W hF => ?_)
  obtain ⟨⟨xa, xb, xc, xd, xu⟩,  hB⟩ := hF
  have Xa := Lib.hid xa
  clear xa Na
  have Xb := Lib.hid xb
  clear xb Nb
  have Xc := Lib.hid xc
  clear xc Nc
  have Xd := Lib.hid xd
  clear xd Nd
  have Xu := Lib.hid xu
  clear xu Nu
  have HB := Lib.hid hB
  clear hB NB
  clear Xu
  refine (D1.out _ _ _ _ Xa.out.s).mono ?_; rintro e w10 ⟨v, rfl, hown, hb10⟩
  have Ya := Lib.hid (Xa.out.call hb10)
  have Yb := Lib.hid (Xb.out.call hb10)
  have Yc := Lib.hid (Xc.out.call hb10)
  have Yd := Lib.hid (Xd.out.call hb10)
  have HB2 := Lib.hid (HB.out.trans (hb10.mono HB.out.size))
  have HV := Lib.hid hown.reads
  obtain ⟨av, cv, hve⟩ := rowI_shape hown
  subst hve
  clear hown hb10 HB Xa Xb Xc Xd
  obtain ⟨⟨ea0, ea1, ea2⟩, -, -⟩ := id Ya.out
  have ga := Ya.out.lt
  obtain ⟨⟨eb0, eb1, eb2⟩, -, -⟩ := id Yb.out
  have gb := Yb.out.lt
  obtain ⟨⟨ec0, ec1, ec2⟩, -, -⟩ := id Yc.out
  have gc := Yc.out.lt
  obtain ⟨⟨ed0, ed1, ed2⟩, -, -⟩ := id Yd.out
  have gd := Yd.out.lt
  go_wp2_with fail
  clear ea0 ea1 ea2 ga
  clear eb0 eb1 eb2 gb
  clear ec0 ec1 ec2 gc
  clear ed0 ed1 ed2 gd
  have hal : Below w10.heap.size w10 (w10.alloc (.cells (([3, 1] : List Int).map (Value.int .i64)).toArray 3)) := (Below.refl _ _).alloc (Nat.le_refl _) _
  have Na := Ya.out.call hal
  have Nb := Yb.out.call hal
  have Nc := Yc.out.call hal
  have Nd := Yd.out.call hal
  have NV := HV.out.call hal
  have NL := nums_new (w := w10) [3, 1] 3
  have NB := HB2.out.trans (hal.mono HB2.out.size)
  clear hal HB2 HV Ya Yb Yc Yd
  obtain ⟨bl, hbe⟩ : ∃ b, w10.heap.size = b := ⟨_, rfl⟩
  rw [hbe] at NL ⊢
  clear hbe
  refine gen_calls (F := fun W => (Bs W ba (.slice p0 A3.1.length q0) (.slice p1 A3.2.1.length q1) (.slice p2 A3.2.2.length q2) A3 ∧ Bs W bb (.slice p0b B.1.length q0b) (.slice p1b B.2.1.length q1b) (.slice p2b B.2.2.length q2b) B ∧ Bs W bc (.slice p0c C.1.length q0c) (.slice p1c C.2.1.length q1c) (.slice p2c C.2.2.length q2c) C ∧ Bs W bd (.slice p0d D.1.length q0d) (.slice p1d D.2.1.length q1d) (.slice p2d D.2.2.length q2d) D) ∧ IsI W (.slice av ([3, 1] : List Int).length cv) [3, 1] ∧ IsI W (.slice (some ⟨bl, 0, none⟩) ([3, 1] : List Int).length ([3, 1] : List Int).length) [3, 1] ∧ Below w.heap.size w W) ⟨⟨Na, Nb, Nc, Nd⟩, NV, NL, NB⟩ (fun W hF => ?_)
  obtain ⟨⟨xa, xb, xc, xd⟩, hv, hlit, hB⟩ := hF
  have Xa := Lib.hid xa
  clear xa Na
  have Xb := Lib.hid xb
  clear xb Nb
  have Xc := Lib.hid xc
  clear xc Nc
  have Xd := Lib.hid xd
  clear xd Nd
  have HB := Lib.hid hB
  clear hB NB
  refine (SI.out _ _ [3, 1] (by decide) _ hv hlit).mono ?_; rintro e w11 ⟨rfl, hb11⟩
  have Ya := Lib.hid (Xa.out.call hb11)
  have Yb := Lib.hid (Xb.out.call hb11)
  have Yc := Lib.hid (Xc.out.call hb11)
  have Yd := Lib.hid (Xd.out.call hb11)
  have HB2 := Lib.hid (HB.out.trans (hb11.mono HB.out.size))
  clear hv hlit hb11 HB Xa Xb Xc Xd
  obtain ⟨⟨ea0, ea1, ea2⟩, -, -⟩ := id Ya.out
  have ga := Ya.out.lt
  obtain ⟨⟨eb0, eb1, eb2⟩, -, -⟩ := id Yb.out
  have gb := Yb.out.lt
  obtain ⟨⟨ec0, ec1, ec2⟩, -, -⟩ := id Yc.out
  have gc := Yc.out.lt
  obtain ⟨⟨ed0, ed1, ed2⟩, -, -⟩ := id Yd.out
  have gd := Yd.out.lt
  go_wp2_with fail
  clear ea0 ea1 ea2 ga
  clear eb0 eb1 eb2 gb
  clear ec0 ec1 ec2 gc
  clear ed0 ed1 ed2 gd
  have Na := Ya.out
  have Nb := Yb.out
  have Nc := Yc.out
  have Nd := Yd.out
  have NB := HB2.out
  clear HB2 Ya Yb Yc Yd
  refine gen_calls (F := fun W => (Bs W ba (.slice p0 A3.1.length q0) (.slice p1 A3.2.1.length q1) (.slice p2 A3.2.2.length q2) A3 ∧ Bs W bb (.slice p0b B.1.length q0b) (.slice p1b B.2.1.length q1b) (.slice p2b B.2.2.length q2b) B ∧ Bs W bc (.slice p0c C.1.length q0c) (.slice p1c C.2.1.length q1c) (.slice p2c C.2.2.length q2c) C ∧ Bs W bd (.slice p0d D.1.length q0d) (.slice p1d D.2.1.length q1d) (.slice p2d D.2.2.length q2d) D) ∧  Below w.heap.size w W) ⟨⟨Na, Nb, Nc, Nd⟩,  NB⟩ (fun W hF => ?_)
  obtain ⟨⟨xa, xb, xc, xd⟩,  hB⟩ := hF
  have Xa := Lib.hid xa
  clear xa Na
  have Xb := Lib.hid xb
  clear xb Nb
  have Xc := Lib.hid xc
  clear xc Nc
  have Xd := Lib.hid xd
  clear xd Nd
  have HB := Lib.hid hB
  clear hB NB
  refine (D2.out _ _ _ _ Xb.out.s).mono ?_; rintro e w12 ⟨v, rfl, hown, hb12⟩
  have Ya := Lib.hid (Xa.out.call hb12)
  have Yb := Lib.hid (Xb.out.call hb12)
  have Yc := Lib.hid (Xc.out.call hb12)
  have Yd := Lib.hid (Xd.out.call hb12)
  have HB2 := Lib.hid (HB.out.trans (hb12.mono HB.out.size))
  have HV := Lib.hid hown.reads
  obtain ⟨av, cv, hve⟩ := rowI_shape hown
  subst hve
  clear hown hb12 HB Xa Xb Xc Xd
  obtain ⟨⟨ea0, ea1, ea2⟩, -, -⟩ := id Ya.out
  have ga := Ya.out.lt
  obtain ⟨⟨eb0, eb1, eb2⟩, -, -⟩ := id Yb.out
  have gb := Yb.out.lt
  obtain ⟨⟨ec0, ec1, ec2⟩, -, -⟩ := id Yc.out
  have gc := Yc.out.lt
  obtain ⟨⟨ed0, ed1, ed2⟩, -, -⟩ := id Yd.out
  have gd := Yd.out.lt
  go_wp2_with fail
  clear ea0 ea1 ea2 ga
  clear eb0 eb1 eb2 gb
  clear ec0 ec1 ec2 gc
  clear ed0 ed1 ed2 gd
  have hal : Below w12.heap.size w12 (w12.alloc (.cells (([1, 3] : List Int).map (Value.int .i64)).toArray 3)) := (Below.refl _ _).alloc (Nat.le_refl _) _
  have Na := Ya.out.call hal
  have Nb := Yb.out.call hal
  have Nc := Yc.out.call hal
  have Nd := Yd.out.call hal
  have NV := HV.out.call hal
  have NL := nums_new (w := w12) [1, 3] 3
  have NB := HB2.out.trans (hal.mono HB2.out.size)
  clear hal HB2 HV Ya Yb Yc Yd
  obtain ⟨bl, hbe⟩ : ∃ b, w12.heap.size = b := ⟨_, rfl⟩
  rw [hbe] at NL ⊢
  clear hbe
  refine gen_calls (F := fun W => (Bs W ba (.slice p0 A3.1.length q0) (.slice p1 A3.2.1.length q1) (.slice p2 A3.2.2.length q2) A3 ∧ Bs W bb (.slice p0b B.1.length q0b) (.slice p1b B.2.1.length q1b) (.slice p2b B.2.2.length q2b) B ∧ Bs W bc (.slice p0c C.1.length q0c) (.slice p1c C.2.1.length q1c) (.slice p2c C.2.2.length q2c) C ∧ Bs W bd (.slice p0d D.1.length q0d) (.slice p1d D.2.1.length q1d) (.slice p2d D.2.2.length q2d) D) ∧ IsI W (.slice av ([1, 3] : List Int).length cv) [1, 3] ∧ IsI W (.slice (some ⟨bl, 0, none⟩) ([1, 3] : List Int).length ([1, 3] : List Int).length) [1, 3] ∧ Below w.heap.size w W) ⟨⟨Na, Nb, Nc, Nd⟩, NV, NL, NB⟩ (fun W hF => ?_)
  obtain ⟨⟨xa, xb, xc, xd⟩, hv, hlit, hB⟩ := hF
  have Xa := Lib.hid xa
  clear xa Na
  have Xb := Lib.hid xb
  clear xb Nb
  have Xc := Lib.hid xc
  clear xc Nc
  have Xd := Lib.hid xd
  clear xd Nd
  have HB := Lib.hid hB
  clear hB NB
  refine (SI.out _ _ [1, 3] (by decide) _ hv hlit).mono ?_; rintro e w13 ⟨rfl, hb13⟩
  have Ya := Lib.hid (Xa.out.call hb13)
  have Yb := Lib.hid (Xb.out.call hb13)
  have Yc := Lib.hid (Xc.out.call hb13)
  have Yd := Lib.hid (Xd.out.call hb13)
  have HB2 := Lib.hid (HB.out.trans (hb13.mono HB.out.size))
  clear hv hlit hb13 HB Xa Xb Xc Xd
  obtain ⟨⟨ea0, ea1, ea2⟩, -, -⟩ := id Ya.out
  have ga := Ya.out.lt
  obtain ⟨⟨eb0, eb1, eb2⟩, -, -⟩ := id Yb.out
  have gb := Yb.out.lt
  obtain ⟨⟨ec0, ec1, ec2⟩, -, -⟩ := id Yc.out
  have gc := Yc.out.lt
  obtain ⟨⟨ed0, ed1, ed2⟩, -, -⟩ := id Yd.out
  have gd := Yd.out.lt
  go_wp2_with fail
  clear ea0 ea1 ea2 ga
  clear eb0 eb1 eb2 gb
  clear ec0 ec1 ec2 gc
  clear ed0 ed1 ed2 gd
  have Na := Ya.out
  have Nb := Yb.out
  have Nc := Yc.out
  have Nd := Yd.out
  have NB := HB2.out
  clear HB2 Ya Yb Yc Yd
  refine gen_calls (F := fun W => (Bs W ba (.slice p0 A3.1.length q0) (.slice p1 A3.2.1.length q1) (.slice p2 A3.2.2.length q2) A3 ∧ Bs W bb (.slice p0b B.1.length q0b) (.slice p1b B.2.1.length q1b) (.slice p2b B.2.2.length q2b) B ∧ Bs W bc (.slice p0c C.1.length q0c) (.slice p1c C.2.1.length q1c) (.slice p2c C.2.2.length q2c) C ∧ Bs W bd (.slice p0d D.1.length q0d) (.slice p1d D.2.1.length q1d) (.slice p2d D.2.2.length q2d) D) ∧  Below w.heap.size w W) ⟨⟨Na, Nb, Nc, Nd⟩,  NB⟩ (fun W hF => ?_)
  obtain ⟨⟨xa, xb, xc, xd⟩,  hB⟩ := hF
  have Xa := Lib.hid xa
  clear xa Na
  have Xb := Lib.hid xb
  clear xb Nb
  have Xc := Lib.hid xc
  clear xc Nc
  have Xd := Lib.hid xd
  clear xd Nd
  have HB := Lib.hid hB
  clear hB NB
  refine (D3.out _ _ _ _ Xc.out.s).mono ?_; rintro e w14 ⟨v, rfl, hown, hb14⟩
  have Ya := Lib.hid (Xa.out.call hb14)
  have Yb := Lib.hid (Xb.out.call hb14)
  have Yc := Lib.hid (Xc.out.call hb14)
  have Yd := Lib.hid (Xd.out.call hb14)
  have HB2 := Lib.hid (HB.out.trans (hb14.mono HB.out.size))
  have HV := Lib.hid hown.reads
  obtain ⟨av, cv, hve⟩ := rowI_shape hown
  subst hve
  clear hown hb14 HB Xa Xb Xc Xd
  obtain ⟨⟨ea0, ea1, ea2⟩, -, -⟩ := id Ya.out
  have ga := Ya.out.lt
  obtain ⟨⟨eb0, eb1, eb2⟩, -, -⟩ := id Yb.out
  have gb := Yb.out.lt
  obtain ⟨⟨ec0, ec1, ec2⟩, -, -⟩ := id Yc.out
  have gc := Yc.out.lt
  obtain ⟨⟨ed0, ed1, ed2⟩, -, -⟩ := id Yd.out
  have gd := Yd.out.lt
  go_wp2_with fail
  clear ea0 ea1 ea2 ga
  clear eb0 eb1 eb2 gb
  clear ec0 ec1 ec2 gc
  clear ed0 ed1 ed2 gd
  have hal : Below w14.heap.size w14 (w14.alloc (.cells (([2, 1, 3] : List Int).map (Value.int .i64)).toArray 3)) := (Below.refl _ _).alloc (Nat.le_refl _) _
  have Na := Ya.out.call hal
  have Nb := Yb.out.call hal
  have Nc := Yc.out.call hal
  have Nd := Yd.out.call hal
  have NV := HV.out.call hal
  have NL := nums_new (w := w14) [2, 1, 3] 3
  have NB := HB2.out.trans (hal.mono HB2.out.size)
  clear hal HB2 HV Ya Yb Yc Yd
  obtain ⟨bl, hbe⟩ : ∃ b, w14.heap.size = b := ⟨_, rfl⟩
  rw [hbe] at NL ⊢
  clear hbe
  refine gen_calls (F := fun W => (Bs W ba (.slice p0 A3.1.length q0) (.slice p1 A3.2.1.length q1) (.slice p2 A3.2.2.length q2) A3 ∧ Bs W bb (.slice p0b B.1.length q0b) (.slice p1b B.2.1.length q1b) (.slice p2b B.2.2.length q2b) B ∧ Bs W bc (.slice p0c C.1.length q0c) (.slice p1c C.2.1.length q1c) (.slice p2c C.2.2.length q2c) C ∧ Bs W bd (.slice p0d D.1.length q0d) (.slice p1d D.2.1.length q1d) (.slice p2d D.2.2.length q2d) D) ∧ IsI W (.slice av ([2, 1, 3] : List Int).length cv) [2, 1, 3] ∧ IsI W (.slice (some ⟨bl, 0, none⟩) ([2, 1, 3] : List Int).length ([2, 1, 3] : List Int).length) [2, 1, 3] ∧ Below w.heap.size w W) ⟨⟨Na, Nb, Nc, Nd⟩, NV, NL, NB⟩ (fun W hF => ?_)
  obtain ⟨⟨xa, xb, xc, xd⟩, hv, hlit, hB⟩ := hF
  have Xa := Lib.hid xa
  clear xa Na
  have Xb := Lib.hid xb
  clear xb Nb
  have Xc := Lib.hid xc
  clear xc Nc
  have Xd := Lib.hid xd
  clear xd Nd
  have HB := Lib.hid hB
  clear hB NB
  refine (SI.out _ _ [2, 1, 3] (by decide) _ hv hlit).mono ?_; rintro e w15 ⟨rfl, hb15⟩
  have Ya := Lib.hid (Xa.out.call hb15)
  have Yb := Lib.hid (Xb.out.call hb15)
  have Yc := Lib.hid (Xc.out.call hb15)
  have Yd := Lib.hid (Xd.out.call hb15)
  have HB2 := Lib.hid (HB.out.trans (hb15.mono HB.out.size))
  clear hv hlit hb15 HB Xa Xb Xc Xd
  obtain ⟨⟨ea0, ea1, ea2⟩, -, -⟩ := id Ya.out
  have ga := Ya.out.lt
  obtain ⟨⟨eb0, eb1, eb2⟩, -, -⟩ := id Yb.out
  have gb := Yb.out.lt
  obtain ⟨⟨ec0, ec1, ec2⟩, -, -⟩ := id Yc.out
  have gc := Yc.out.lt
  obtain ⟨⟨ed0, ed1, ed2⟩, -, -⟩ := id Yd.out
  have gd := Yd.out.lt
  go_wp2_with fail
  clear ea0 ea1 ea2 ga
  clear eb0 eb1 eb2 gb
  clear ec0 ec1 ec2 gc
  clear ed0 ed1 ed2 gd
  have Na := Ya.out
  have Nb := Yb.out
  have Nc := Yc.out
  have Nd := Yd.out
  have NB := HB2.out
  clear HB2 Ya Yb Yc Yd
  refine gen_calls (F := fun W => (Bs W ba (.slice p0 A3.1.length q0) (.slice p1 A3.2.1.length q1) (.slice p2 A3.2.2.length q2) A3 ∧ Bs W bb (.slice p0b B.1.length q0b) (.slice p1b B.2.1.length q1b) (.slice p2b B.2.2.length q2b) B ∧ Bs W bc (.slice p0c C.1.length q0c) (.slice p1c C.2.1.length q1c) (.slice p2c C.2.2.length q2c) C ∧ Bs W bd (.slice p0d D.1.length q0d) (.slice p1d D.2.1.length q1d) (.slice p2d D.2.2.length q2d) D) ∧  Below w.heap.size w W) ⟨⟨Na, Nb, Nc, Nd⟩,  NB⟩ (fun W hF => ?_)
  obtain ⟨⟨xa, xb, xc, xd⟩,  hB⟩ := hF
  have Xa := Lib.hid xa
  clear xa Na
  have Xb := Lib.hid xb
  clear xb Nb
  have Xc := Lib.hid xc
  clear xc Nc
  have Xd := Lib.hid xd
  clear xd Nd
  have HB := Lib.hid hB
  clear hB NB
  refine (D4.out _ _ _ _ Xd.out.s).mono ?_; rintro e w16 ⟨v, rfl, hown, hb16⟩
  have Ya := Lib.hid (Xa.out.call hb16)
  have Yb := Lib.hid (Xb.out.call hb16)
  have Yc := Lib.hid (Xc.out.call hb16)
  have Yd := Lib.hid (Xd.out.call hb16)
  have HB2 := Lib.hid (HB.out.trans (hb16.mono HB.out.size))
  have HV := Lib.hid hown.reads
  obtain ⟨av, cv, hve⟩ := rowI_shape hown
  subst hve
  clear hown hb16 HB Xa Xb Xc Xd
  obtain ⟨⟨ea0, ea1, ea2⟩, -, -⟩ := id Ya.out
  have ga := Ya.out.lt
  obtain ⟨⟨eb0, eb1, eb2⟩, -, -⟩ := id Yb.out
  have gb := Yb.out.lt
  obtain ⟨⟨ec0, ec1, ec2⟩, -, -⟩ := id Yc.out
  have gc := Yc.out.lt
  obtain ⟨⟨ed0, ed1, ed2⟩, -, -⟩ := id Yd.out
  have gd := Yd.out.lt
  go_wp2_with fail
  clear ea0 ea1 ea2 ga
  clear eb0 eb1 eb2 gb
  clear ec0 ec1 ec2 gc
  clear ed0 ed1 ed2 gd
  have hal : Below w16.heap.size w16 (w16.alloc (.cells (([3, 2] : List Int).map (Value.int .i64)).toArray 3)) := (Below.refl _ _).alloc (Nat.le_refl _) _
  have Na := Ya.out.call hal
  have Nb := Yb.out.call hal
  have Nc := Yc.out.call hal
  have Nd := Yd.out.call hal
  have NV := HV.out.call hal
  have NL := nums_new (w := w16) [3, 2] 3
  have NB := HB2.out.trans (hal.mono HB2.out.size)
  clear hal HB2 HV Ya Yb Yc Yd
  obtain ⟨bl, hbe⟩ : ∃ b, w16.heap.size = b := ⟨_, rfl⟩
  rw [hbe] at NL ⊢
  clear hbe
  refine gen_calls (F := fun W => (Bs W ba (.slice p0 A3.1.length q0) (.slice p1 A3.2.1.length q1) (.slice p2 A3.2.2.length q2) A3 ∧ Bs W bb (.slice p0b B.1.length q0b) (.slice p1b B.2.1.length q1b) (.slice p2b B.2.2.length q2b) B ∧ Bs W bc (.slice p0c C.1.length q0c) (.slice p1c C.2.1.length q1c) (.slice p2c C.2.2.length q2c) C ∧ Bs W bd (.slice p0d D.1.length q0d) (.slice p1d D.2.1.length q1d) (.slice p2d D.2.2.length q2d) D) ∧ IsI W (.slice av ([3, 2] : List Int).length cv) [3, 2] ∧ IsI W (.slice (some ⟨bl, 0, none⟩) ([3, 2] : List Int).length ([3, 2] : List Int).length) [3, 2] ∧ Below w.heap.size w W) ⟨⟨Na, Nb, Nc, Nd⟩, NV, NL, NB⟩ (fun W hF => ?_)
  obtain ⟨⟨xa, xb, xc, xd⟩, hv, hlit, hB⟩ := hF
  have Xa := Lib.hid xa
  clear xa Na
  have Xb := Lib.hid xb
  clear xb Nb
  have Xc := Lib.hid xc
  clear xc Nc
  have Xd := Lib.hid xd
  clear xd Nd
  have HB := Lib.hid hB
  clear hB NB
  refine (SI.out _ _ [3, 2] (by decide) _ hv hlit).mono ?_; rintro e w17 ⟨rfl, hb17⟩
  have Ya := Lib.hid (Xa.out.call hb17)
  have Yb := Lib.hid (Xb.out.call hb17)
  have Yc := Lib.hid (Xc.out.call hb17)
  have Yd := Lib.hid (Xd.out.call hb17)
  have HB2 := Lib.hid (HB.out.trans (hb17.mono HB.out.size))
  clear hv hlit hb17 HB Xa Xb Xc Xd
  obtain ⟨⟨ea0, ea1, ea2⟩, -, -⟩ := id Ya.out
  have ga := Ya.out.lt
  obtain ⟨⟨eb0, eb1, eb2⟩, -, -⟩ := id Yb.out
  have gb := Yb.out.lt
  obtain ⟨⟨ec0, ec1, ec2⟩, -, -⟩ := id Yc.out
  have gc := Yc.out.lt
  obtain ⟨⟨ed0, ed1, ed2⟩, -, -⟩ := id Yd.out
  have gd := Yd.out.lt
  go_wp2_with fail
  clear ea0 ea1 ea2 ga
  clear eb0 eb1 eb2 gb
  clear ec0 ec1 ec2 gc
  clear ed0 ed1 ed2 gd
  have Na := Ya.out
  have Nb := Yb.out
  have Nc := Yc.out
  have Nd := Yd.out
  have NB := HB2.out
  clear HB2 Ya Yb Yc Yd
  refine gen_calls (F := fun W => (Bs W ba (.slice p0 A3.1.length q0) (.slice p1 A3.2.1.length q1) (.slice p2 A3.2.2.length q2) A3 ∧ Bs W bb (.slice p0b B.1.length q0b) (.slice p1b B.2.1.length q1b) (.slice p2b B.2.2.length q2b) B ∧ Bs W bc (.slice p0c C.1.length q0c) (.slice p1c C.2.1.length q1c) (.slice p2c C.2.2.length q2c) C ∧ Bs W bd (.slice p0d D.1.length q0d) (.slice p1d D.2.1.length q1d) (.slice p2d D.2.2.length q2d) D) ∧  Below w.heap.size w W) ⟨⟨Na, Nb, Nc, Nd⟩,  NB⟩ (fun W hF => ?_)
  obtain ⟨⟨xa, xb, xc, xd⟩,  hB⟩ := hF
  have Xa := Lib.hid xa
  clear xa Na
  have Xb := Lib.hid xb
  clear xb Nb
  have Xc := Lib.hid xc
  clear xc Nc
  have Xd := Lib.hid xd
  clear xd Nd
  have HB := Lib.hid hB
  clear hB NB
  refine (D5.out _ _ _ _ Xd.out.s).mono ?_; rintro e w18 ⟨rfl, hb18⟩
  have Ya := Lib.hid (Xa.out.call hb18)
  have Yb := Lib.hid (Xb.out.call hb18)
  have Yc := Lib.hid (Xc.out.call hb18)
  have Yd := Lib.hid (Xd.out.call hb18)
  have HB2 := Lib.hid (HB.out.trans (hb18.mono HB.out.size))
  clear hb18 HB Xa Xb Xc Xd
  obtain ⟨⟨ea0, ea1, ea2⟩, -, -⟩ := id Ya.out
  have ga := Ya.out.lt
  obtain ⟨⟨eb0, eb1, eb2⟩, -, -⟩ := id Yb.out
  have gb := Yb.out.lt
  obtain ⟨⟨ec0, ec1, ec2⟩, -, -⟩ := id Yc.out
  have gc := Yc.out.lt
  obtain ⟨⟨ed0, ed1, ed2⟩, -, -⟩ := id Yd.out
  have gd := Yd.out.lt
  go_wp2_with fail
  clear ea0 ea1 ea2 ga
  clear eb0 eb1 eb2 gb
  clear ec0 ec1 ec2 gc
  clear ed0 ed1 ed2 gd
  have Na := Ya.out
  have Nb := Yb.out
  have Nc := Yc.out
  have Nd := Yd.out
  have NB := HB2.out
  clear HB2 Ya Yb Yc Yd
  refine gen_calls (F := fun W => (Bs W ba (.slice p0 A3.1.length q0) (.slice p1 A3.2.1.length q1) (.slice p2 A3.2.2.length q2) A3 ∧ Bs W bb (.slice p0b B.1.length q0b) (.slice p1b B.2.1.length q1b) (.slice p2b B.2.2.length q2b) B ∧ Bs W bc (.slice p0c C.1.length q0c) (.slice p1c C.2.1.length q1c) (.slice p2c C.2.2.length q2c) C ∧ Bs W bd (.slice p0d D.1.length q0d) (.slice p1d D.2.1.length q1d) (.slice p2d D.2.2.length q2d) D) ∧  Below w.heap.size w W) ⟨⟨Na, Nb, Nc, Nd⟩,  NB⟩ (fun W hF => ?_)
  obtain ⟨⟨xa, xb, xc, xd⟩,  hB⟩ := hF
  have Xa := Lib.hid xa
  clear xa Na
  have Xb := Lib.hid xb
  clear xb Nb
  have Xc := Lib.hid xc
  clear xc Nc
  have Xd := Lib.hid xd
  clear xd Nd
  have HB := Lib.hid hB
  clear hB NB
  refine (D6.out _ _ _ _ Xd.out.s).mono ?_; rintro e w19 ⟨rfl, hb19⟩
  have Ya := Lib.hid (Xa.out.call hb19)
  have Yb := Lib.hid (Xb.out.call hb19)
  have Yc := Lib.hid (Xc.out.call hb19)
  have Yd := Lib.hid (Xd.out.call hb19)
  have HB2 := Lib.hid (HB.out.trans (hb19.mono HB.out.size))
  clear hb19 HB Xa Xb Xc Xd
  obtain ⟨⟨ea0, ea1, ea2⟩, -, -⟩ := id Ya.out
  have ga := Ya.out.lt
  obtain ⟨⟨eb0, eb1, eb2⟩, -, -⟩ := id Yb.out
  have gb := Yb.out.lt
  obtain ⟨⟨ec0, ec1, ec2⟩, -, -⟩ := id Yc.out
  have gc := Yc.out.lt
  obtain ⟨⟨ed0, ed1, ed2⟩, -, -⟩ := id Yd.out
  have gd := Yd.out.lt
  go_wp2_with fail
  clear ea0 ea1 ea2 ga
  clear eb0 eb1 eb2 gb
  clear ec0 ec1 ec2 gc
  clear ed0 ed1 ed2 gd
  have Na := Ya.out
  have Nb := Yb.out
  have Nc := Yc.out
  have Nd := Yd.out
  have NB := HB2.out
  clear HB2 Ya Yb Yc Yd
  refine gen_calls (F := fun W => (Bs W ba (.slice p0 A3.1.length q0) (.slice p1 A3.2.1.length q1) (.slice p2 A3.2.2.length q2) A3 ∧ Bs W bb (.slice p0b B.1.length q0b) (.slice p1b B.2.1.length q1b) (.slice p2b B.2.2.length q2b) B ∧ Bs W bc (.slice p0c C.1.length q0c) (.slice p1c C.2.1.length q1c) (.slice p2c C.2.2.length q2c) C ∧ Bs W bd (.slice p0d D.1.length q0d) (.slice p1d D.2.1.length q1d) (.slice p2d D.2.2.length q2d) D) ∧  Below w.heap.size w W) ⟨⟨Na, Nb, Nc, Nd⟩,  NB⟩ (fun W hF => ?_)
  obtain ⟨⟨xa, xb, xc, xd⟩,  hB⟩ := hF
  have Xa := Lib.hid xa
  clear xa Na
  have Xb := Lib.hid xb
  clear xb Nb
  have Xc := Lib.hid xc
  clear xc Nc
  have Xd := Lib.hid xd
  clear xd Nd
  have HB := Lib.hid hB
  clear hB NB
  refine (D7.out _ _ _ _ Xc.out.s).mono ?_; rintro e w20 ⟨rfl, hb20⟩
  have Ya := Lib.hid (Xa.out.call hb20)
  have Yb := Lib.hid (Xb.out.call hb20)
  have Yc := Lib.hid (Xc.out.call hb20)
  have Yd := Lib.hid (Xd.out.call hb20)
  have HB2 := Lib.hid (HB.out.trans (hb20.mono HB.out.size))
  clear hb20 HB Xa Xb Xc Xd
  obtain ⟨⟨ea0, ea1, ea2⟩, -, -⟩ := id Ya.out
  have ga := Ya.out.lt
  obtain ⟨⟨eb0, eb1, eb2⟩, -, -⟩ := id Yb.out
  have gb := Yb.out.lt
  obtain ⟨⟨ec0, ec1, ec2⟩, -, -⟩ := id Yc.out
  have gc := Yc.out.lt
  obtain ⟨⟨ed0, ed1, ed2⟩, -, -⟩ := id Yd.out
  have gd := Yd.out.lt
  go_wp2_with fail
  clear ea0 ea1 ea2 ga
  clear eb0 eb1 eb2 gb
  clear ec0 ec1 ec2 gc
  clear ed0 ed1 ed2 gd
  have Na := Ya.out
  have Nb := Yb.out
  have Nc := Yc.out
  have Nd := Yd.out
  have NB := HB2.out
  clear HB2 Ya Yb Yc Yd
  refine gen_calls (F := fun W => (Bs W ba (.slice p0 A3.1.length q0) (.slice p1 A3.2.1.length q1) (.slice p2 A3.2.2.length q2) A3 ∧ Bs W bb (.slice p0b B.1.length q0b) (.slice p1b B.2.1.length q1b) (.slice p2b B.2.2.length q2b) B ∧ Bs W bc (.slice p0c C.1.length q0c) (.slice p1c C.2.1.length q1c) (.slice p2c C.2.2.length q2c) C ∧ Bs W bd (.slice p0d D.1.length q0d) (.slice p1d D.2.1.length q1d) (.slice p2d D.2.2.length q2d) D) ∧  Below w.heap.size w W) ⟨⟨Na, Nb, Nc, Nd⟩,  NB⟩ (fun W hF => ?_)
  obtain ⟨⟨xa, xb, xc, xd⟩,  hB⟩ := hF
  have Xa := Lib.hid xa
  clear xa Na
  have Xb := Lib.hid xb
  clear xb Nb
  have Xc := Lib.hid xc
  clear xc Nc
  have Xd := Lib.hid xd
  clear xd Nd
  have HB := Lib.hid hB
  clear hB NB
  refine (D8.out _ _ _ _ Xd.out.s).mono ?_; rintro e w21 ⟨rfl, hb21⟩
  have Ya := Lib.hid (Xa.out.call hb21)
  have Yb := Lib.hid (Xb.out.call hb21)
  have Yc := Lib.hid (Xc.out.call hb21)
  have Yd := Lib.hid (Xd.out.call hb21)
  have HB2 := Lib.hid (HB.out.trans (hb21.mono HB.out.size))
  clear hb21 HB Xa Xb Xc Xd
  obtain ⟨⟨ea0, ea1, ea2⟩, -, -⟩ := id Ya.out
  have ga := Ya.out.lt
  obtain ⟨⟨eb0, eb1, eb2⟩, -, -⟩ := id Yb.out
  have gb := Yb.out.lt
  obtain ⟨⟨ec0, ec1, ec2⟩, -, -⟩ := id Yc.out
  have gc := Yc.out.lt
  obtain ⟨⟨ed0, ed1, ed2⟩, -, -⟩ := id Yd.out
  have gd := Yd.out.lt
  go_wp2_with fail
  clear ea0 ea1 ea2 ga
  clear eb0 eb1 eb2 gb
  clear ec0 ec1 ec2 gc
  clear ed0 ed1 ed2 gd
  have Na := Ya.out
  have Nb := Yb.out
  have Nc := Yc.out
  have Nd := Yd.out
  have NB := HB2.out
  clear HB2 Ya Yb Yc Yd
  refine gen_calls (F := fun W => (Bs W ba (.slice p0 A3.1.length q0) (.slice p1 A3.2.1.length q1) (.slice p2 A3.2.2.length q2) A3 ∧ Bs W bb (.slice p0b B.1.length q0b) (.slice p1b B.2.1.length q1b) (.slice p2b B.2.2.length q2b) B ∧ Bs W bc (.slice p0c C.1.length q0c) (.slice p1c C.2.1.length q1c) (.slice p2c C.2.2.length q2c) C ∧ Bs W bd (.slice p0d D.1.length q0d) (.slice p1d D.2.1.length q1d) (.slice p2d D.2.2.length q2d) D) ∧  Below w.heap.size w W) ⟨⟨Na, Nb, Nc, Nd⟩,  NB⟩ (fun W hF => ?_)
  obtain ⟨⟨xa, xb, xc, xd⟩,  hB⟩ := hF
  have Xa := Lib.hid xa
  clear xa Na
  have Xb := Lib.hid xb
  clear xb Nb
  have Xc := Lib.hid xc
  clear xc Nc
  have Xd := Lib.hid xd
  clear xd Nd
  have HB := Lib.hid hB
  clear hB NB
  refine (D9.out _).mono ?_; rintro e w22 ⟨rfl, hb22⟩
  have Ya := Lib.hid (Xa.out.call hb22)
  have Yb := Lib.hid (Xb.out.call hb22)
  have Yc := Lib.hid (Xc.out.call hb22)
  have Yd := Lib.hid (Xd.out.call hb22)
  have HB2 := Lib.hid (HB.out.trans (hb22.mono HB.out.size))
  clear hb22 HB Xa Xb Xc Xd
  obtain ⟨⟨ea0, ea1, ea2⟩, -, -⟩ := id Ya.out
  have ga := Ya.out.lt
  obtain ⟨⟨eb0, eb1, eb2⟩, -, -⟩ := id Yb.out
  have gb := Yb.out.lt
  obtain ⟨⟨ec0, ec1, ec2⟩, -, -⟩ := id Yc.out
  have gc := Yc.out.lt
  obtain ⟨⟨ed0, ed1, ed2⟩, -, -⟩ := id Yd.out
  have gd := Yd.out.lt
  go_wp2_with fail
  clear ea0 ea1 ea2 ga
  clear eb0 eb1 eb2 gb
  clear ec0 ec1 ec2 gc
  clear ed0 ed1 ed2 gd
  have Na := Ya.out
  have Nb := Yb.out
  have Nc := Yc.out
  have Nd := Yd.out
  have NB := HB2.out
  clear HB2 Ya Yb Yc Yd
  refine gen_calls (F := fun W => (Bs W ba (.slice p0 A3.1.length q0) (.slice p1 A3.2.1.length q1) (.slice p2 A3.2.2.length q2) A3 ∧ Bs W bb (.slice p0b B.1.length q0b) (.slice p1b B.2.1.length q1b) (.slice p2b B.2.2.length q2b) B ∧ Bs W bc (.slice p0c C.1.length q0c) (.slice p1c C.2.1.length q1c) (.slice p2c C.2.2.length q2c) C ∧ Bs W bd (.slice p0d D.1.length q0d) (.slice p1d D.2.1.length q1d) (.slice p2d D.2.2.length q2d) D) ∧  Below w.heap.size w W) ⟨⟨Na, Nb, Nc, Nd⟩,  NB⟩ (fun W hF => ?_)
  obtain ⟨⟨xa, xb, xc, xd⟩,  hB⟩ := hF
  have Xa := Lib.hid xa
  clear xa Na
  have Xb := Lib.hid xb
  clear xb Nb
  have Xc := Lib.hid xc
  clear xc Nc
  have Xd := Lib.hid xd
  clear xd Nd
  have HB := Lib.hid hB
  clear hB NB
  refine (F1.out _ _ _ _ _ _ _ Xc.out.s Xd.out.s).mono ?_; rintro e w23 ⟨rfl, hb23⟩
  have Ya := Lib.hid (Xa.out.call hb23)
  have Yb := Lib.hid (Xb.out.call hb23)
  have Yc := Lib.hid (Xc.out.call hb23)
  have Yd := Lib.hid (Xd.out.call hb23)
  have HB2 := Lib.hid (HB.out.trans (hb23.mono HB.out.size))
  clear hb23 HB Xa Xb Xc Xd
  obtain ⟨⟨ea0, ea1, ea2⟩, -, -⟩ := id Ya.out
  have ga := Ya.out.lt
  obtain ⟨⟨eb0, eb1, eb2⟩, -, -⟩ := id Yb.out
  have gb := Yb.out.lt
  obtain ⟨⟨ec0, ec1, ec2⟩, -, -⟩ := id Yc.out
  have gc := Yc.out.lt
  obtain ⟨⟨ed0, ed1, ed2⟩, -, -⟩ := id Yd.out
  have gd := Yd.out.lt
  go_wp2_with fail
  clear ea0 ea1 ea2 ga
  clear eb0 eb1 eb2 gb
  clear ec0 ec1 ec2 gc
  clear ed0 ed1 ed2 gd
  have Na := Ya.out
  have Nb := Yb.out
  have Nc := Yc.out
  have Nd := Yd.out
  have NB := HB2.out
  clear HB2 Ya Yb Yc Yd
  refine gen_calls (F := fun W => (Bs W ba (.slice p0 A3.1.length q0) (.slice p1 A3.2.1.length q1) (.slice p2 A3.2.2.length q2) A3 ∧ Bs W bb (.slice p0b B.1.length q0b) (.slice p1b B.2.1.length q1b) (.slice p2b B.2.2.length q2b) B ∧ Bs W bc (.slice p0c C.1.length q0c) (.slice p1c C.2.1.length q1c) (.slice p2c C.2.2.length q2c) C ∧ Bs W bd (.slice p0d D.1.length q0d) (.slice p1d D.2.1.length q1d) (.slice p2d D.2.2.length q2d) D) ∧  Below w.heap.size w W) ⟨⟨Na, Nb, Nc, Nd⟩,  NB⟩ (fun W hF => ?_)
  obtain ⟨⟨xa, xb, xc, xd⟩,  hB⟩ := hF
  have Xa := Lib.hid xa
  clear xa Na
  have Xb := Lib.hid xb
  clear xb Nb
  have Xc := Lib.hid xc
  clear xc Nc
  have Xd := Lib.hid xd
  clear xd Nd
  have HB := Lib.hid hB
  clear hB NB
  refine (F2.out _ _ _ _ _ _ _ Xd.out.s Xd.out.s).mono ?_; rintro e w24 ⟨rfl, hb24⟩
  have Ya := Lib.hid (Xa.out.call hb24)
  have Yb := Lib.hid (Xb.out.call hb24)
  have Yc := Lib.hid (Xc.out.call hb24)
  have Yd := Lib.hid (Xd.out.call hb24)
  have HB2 := Lib.hid (HB.out.trans (hb24.mono HB.out.size))
  clear hb24 HB Xa Xb Xc Xd
  obtain ⟨⟨ea0, ea1, ea2⟩, -, -⟩ := id Ya.out
  have ga := Ya.out.lt
  obtain ⟨⟨eb0, eb1, eb2⟩, -, -⟩ := id Yb.out
  have gb := Yb.out.lt
  obtain ⟨⟨ec0, ec1, ec2⟩, -, -⟩ := id Yc.out
  have gc := Yc.out.lt
  obtain ⟨⟨ed0, ed1, ed2⟩, -, -⟩ := id Yd.out
  have gd := Yd.out.lt
  go_wp2_with fail
  go_ret
  exact ⟨rfl, HB2.out⟩
end Go.Proofs.Ytkcenadenmkgnaa
