/- Layer 7: awake: what every right program finds. -/
import Derived.Test.YtaenbnohkhmnbaaT7V
namespace Go.Proofs.Ytaenbnohkhmnbaa
open Go.RowKit
set_option linter.unusedVariables false
set_option linter.unusedSimpArgs false

theorem RowE.but {w w' : World} {g h b : Nat} {L : List Ent} (H : RowE w b L) (hb : But2 w w' g h) (h1 : b ≠ g) (h2 : b ≠ h) (hl : b < w.heap.size) : RowE w' b L := by
  have hq := hb.2 b hl h1 h2
  exact ⟨fun j hj => (World.cell?_of_block (w := w) (a := ⟨b, j * 2, none⟩) hq).trans (H.k0 j hj), fun j hj => (World.cell?_of_block (w := w) (a := ⟨b, j * 2 + 1, none⟩) hq).trans (H.k1 j hj), fun j => (World.frozen?_of_block (w := w) (a := ⟨b, j, none⟩) hq).trans (H.fr j)⟩

abbrev kB : ByteArray := ⟨#[98]⟩
abbrev kA : ByteArray := ⟨#[97]⟩
abbrev kX : ByteArray := ⟨#[120]⟩
abbrev k0' : ByteArray := ⟨#[]⟩
def t1 : Nat → Sl := upd noSl 1 (some (kB, 2))
def t2 : Nat → Sl := upd t1 0 (some (kA, 1))
def t3 : Nat → Sl := upd t2 1 (some (kB, 3))
def t4 : Nat → Sl := upd t3 2 (some (k0', 9))
def t5 : Nat → Sl := upd t4 0 (some (kA, 5))
def t6 : Nat → Sl := upd t5 2 none
theorem f1 : findF noSl 4 kB 4 (ow 4 kB) = some (1, false) := by decide +kernel
theorem f2 : findF t1 4 kA 4 (ow 4 kA) = some (0, false) := by decide +kernel
theorem f3 : findF t2 4 kB 4 (ow 4 kB) = some (1, true) := by decide +kernel
theorem f4 : findF t3 4 k0' 4 (ow 4 k0') = some (2, false) := by decide +kernel
theorem f5 : findF t4 4 kX 4 (ow 4 kX) = some (3, false) := by decide +kernel
theorem f6 : findF t4 4 kA 4 (ow 4 kA) = some (0, true) := by decide +kernel
theorem f7 : findF t5 4 kB 4 (ow 4 kB) = some (1, true) := by decide +kernel
theorem f8 : findF t5 4 k0' 4 (ow 4 k0') = some (2, true) := by decide +kernel
theorem f9 : findF t6 4 k0' 4 (ow 4 k0') = some (2, false) := by decide +kernel
theorem f10 : findF t6 4 kA 4 (ow 4 kA) = some (0, true) := by decide +kernel
theorem g8 : closeF 4 4 t5 2 (nxt 4 2) = some (t5, 2) := by
  have h : t5 (nxt 4 2) = none := by decide +kernel
  rw [closeF, h]
def endL : List Ent := [(k0', 9), (kA, 5), (kB, 3)]
theorem e5 : entsL t5 4 = [(kA, 5), (kB, 3), (k0', 9)] := by decide +kernel
theorem s5 : sortE (entsL t5 4) = endL := by
  rw [e5]
  decide +kernel

theorem valT4 : valO (t4 0) = 1 ∧ addP 1 4 = 5 ∧ valO (t5 1) = 3 := by decide +kernel
set_option maxRecDepth 100000 in
set_option maxHeartbeats 8000000 in
theorem awake_any (w : World) : Calls Try.prog 6 #[] w fun e w' => e = .returned (.bool true) ∧ Below w.heap.size w w' := by
  have q1 : setK noSl 0 1 = 1 := by decide
  have q2 : setK t1 1 0 = 2 := by decide
  have q3 : setK t2 2 1 = 2 := by decide
  have q4 : setK t3 2 2 = 3 := by decide
  have q6 : setK t4 3 0 = 3 := by decide
  have v6 : addP (valO (t4 0)) 4 = 5 := by rw [valT4.1, valT4.2.1]
  go_enter Try.func6, Try.ntmps6
  go_wp2_with fail
  refine (new_yes 4 _ (by decide) (by decide)).mono ?_; rintro e w1 ⟨g, h, rfl, H1, hg, hh, hb1⟩
  have B1 := Lib.hid (But2.below g h hb1)
  clear hb1
  go_wp2_with fail
  refine (put_ok g h 4 0 noSl kB 2 4 1 false _ H1 (by decide) f1 (.inr (by decide))).mono ?_; rintro e w2 ⟨rfl, H2, b2⟩
  rw [q1] at H2
  replace H2 : LieT w2 g h 4 1 t1 := H2
  have B2 := Lib.hid (B1.out.trans b2)
  clear B1 b2 H1
  go_wp2_with fail
  refine (put_ok g h 4 1 t1 kA 1 4 0 false _ H2 (by decide) f2 (.inr (by decide))).mono ?_; rintro e w3 ⟨rfl, H3, b3⟩
  rw [q2] at H3
  replace H3 : LieT w3 g h 4 2 t2 := H3
  have B3 := Lib.hid (B2.out.trans b3)
  clear B2 b3 H2
  go_wp2_with fail
  refine (put_ok g h 4 2 t2 kB 3 4 1 true _ H3 (by decide) f3 (.inl rfl)).mono ?_; rintro e w4 ⟨rfl, H4, b4⟩
  rw [q3] at H4
  replace H4 : LieT w4 g h 4 2 t3 := H4
  have B4 := Lib.hid (B3.out.trans b4)
  clear B3 b4 H3
  go_wp2_with fail
  refine (put_ok g h 4 2 t3 k0' 9 4 2 false _ H4 (by decide) f4 (.inr (by decide))).mono ?_; rintro e w5 ⟨rfl, H5, b5⟩
  rw [q4] at H5
  replace H5 : LieT w5 g h 4 3 t4 := H5
  have B5 := Lib.hid (B4.out.trans b5)
  clear B4 b5 H4
  go_wp2_with fail
  refine (put_full g h 4 3 t4 kX 1 4 3 _ H5 (by decide) f5 (by decide)).mono ?_; rintro e w6 ⟨rfl, b6⟩
  have H6 := H5.call b6
  have B6 := Lib.hid (B5.out.call b6)
  clear B5 b6 H5
  go_wp2_with fail
  refine (add_ok g h 4 3 t4 kA 4 4 0 true _ H6 (by decide) f6 (.inl rfl)).mono ?_; rintro e w7 ⟨rfl, H7, b7⟩
  rw [q6, v6] at H7
  replace H7 : LieT w7 g h 4 3 t5 := H7
  rw [v6]
  have B7 := Lib.hid (B6.out.trans b7)
  clear B6 b7 H6 q1 q2 q3 q4 q6 v6
  go_wp2_with fail
  refine (get_yes g h 4 3 t5 kB 4 1 _ H7 (by decide) f7).mono ?_; rintro e w8 ⟨rfl, b8⟩
  rw [valT4.2.2]
  have H8 := H7.call b8
  have B8 := Lib.hid (B7.out.call b8)
  clear B7 b8 H7
  go_wp2_with fail
  refine (all_three g h 4 t5 _ H8 (by decide +kernel)).mono ?_; rintro e w9 ⟨ba, ca, rfl, hba, hbl, R9, hl9, b9⟩
  rw [s5] at R9
  have H9 := H8.call b9
  have B9 := Lib.hid (B8.out.call b9)
  have L8 := Lib.hid (And.intro H8.ltg H8.lth)
  clear B8 b9 hl9 H8
  have ce := entries_any ba ca endL w9 R9 hbl (by decide) (by decide)
  go_wp2_with fail
  refine ce.mono ?_; rintro e w10 ⟨bb, cb, rfl, hbb, hbl2, R10, b10⟩
  have H10 := H9.call b10
  have B10 := Lib.hid (B9.out.call b10)
  have L9 := Lib.hid (And.intro H9.ltg H9.lth)
  have R10 := Lib.hid R10
  have HBB := Lib.hid (And.intro hbb hbl2)
  clear B9 b10 ce R9 hba hbl hbb hbl2 H9
  rw [show endL.length = 3 from rfl]
  go_wp2_with fail
  refine (del_yes g h 4 3 t5 t5 k0' 4 4 2 2 3 w10 H10 (by decide) f8 (by decide) (by decide +kernel) g8 (by decide)).mono ?_; rintro e w11 ⟨rfl, H11, b11⟩
  replace H11 : LieT w11 g h 4 2 t6 := H11
  have B11 := Lib.hid (B10.out.trans b11)
  have L10 := Lib.hid (And.intro H10.ltg H10.lth)
  have R11 := Lib.hid (R10.out.but b11 (by have := L9.out; have := HBB.out; omega) (by have := L9.out; have := HBB.out; omega) HBB.out.2)
  have HBC := Lib.hid (show bb < w11.heap.size from Nat.lt_of_lt_of_le HBB.out.2 b11.size)
  clear B10 b11 R10 H10
  go_wp2_with fail
  refine (del_no g h 4 2 t6 k0' 4 2 w11 H11 (by decide) f9).mono ?_; rintro e w12 ⟨rfl, b12⟩
  have H12 := H11.call b12
  have B12 := Lib.hid (B11.out.call b12)
  have R12 := Lib.hid (R11.out.far b12 HBC.out)
  have HBD := Lib.hid (show bb < w12.heap.size from Nat.lt_of_lt_of_le HBC.out b12.size)
  clear B11 b12 R11 H11
  go_wp2_with fail
  refine (where_any g h 4 2 t6 kA 4 0 true w12 H12 (by decide) f10).mono ?_; rintro e w13 ⟨rfl, b13⟩
  rw [show whereP 0 true = 0 from rfl]
  have H13 := H12.call b13
  have B13 := Lib.hid (B12.out.call b13)
  have R13 := Lib.hid (R12.out.far b13 HBD.out)
  have HBE := Lib.hid (show bb < w13.heap.size from Nat.lt_of_lt_of_le HBD.out b13.size)
  clear B12 b13 R12 H12
  go_wp2_with fail
  refine (new_no 1 w13 (by decide)).mono ?_; rintro e w14 ⟨rfl, b14⟩
  have H14 := H13.call b14
  have B14 := Lib.hid (B13.out.call b14)
  have R14 := Lib.hid (R13.out.far b14 HBE.out)
  have HBF := Lib.hid (show bb < w14.heap.size from Nat.lt_of_lt_of_le HBE.out b14.size)
  clear B13 b14 R13 H13
  have ha : Below w14.heap.size w14 (w14.alloc (.cells #[.string k0', .int .i64 9, .string kA, .int .i64 5, .string kB, .int .i64 3] 56)) := (Below.refl _ _).alloc (Nat.le_refl _) _
  have RS := Lib.hid (show RowE (w14.alloc (.cells #[.string k0', .int .i64 9, .string kA, .int .i64 5, .string kB, .int .i64 3] 56)) w14.heap.size endL from ⟨fun j hj => by
      have : j = 0 ∨ j = 1 ∨ j = 2 := by have : j < 3 := hj; omega
      rcases this with rfl | rfl | rfl <;> simp [go_sem, endL], fun j hj => by
      have : j = 0 ∨ j = 1 ∨ j = 2 := by have : j < 3 := hj; omega
      rcases this with rfl | rfl | rfl <;> simp [go_sem, endL], fun j => by simp [go_sem]⟩)
  have HR15 := Lib.hid (R14.out.far ha HBF.out)
  have H15 := H14.call ha
  have B15 := Lib.hid (B14.out.call ha)
  clear ha H14 B14 R14
  go_wp2_with fail
  refine (sameEntries_yes bb w14.heap.size cb 3 endL _ HR15.out RS.out (by decide)).mono ?_; rintro e w15 ⟨rfl, b15⟩
  have H16 := H15.call b15
  have B16 := Lib.hid (B15.out.call b15)
  clear HR15 H15 B15 b15 RS
  go_wp2_with fail
  refine (len_any g h 4 2 t6 _ H16).mono ?_; rintro e w17 ⟨rfl, b17⟩
  have H17 := H16.call b17
  have B17 := Lib.hid (B16.out.call b17)
  clear H16 B16 b17
  go_wp2_with fail
  refine (full_any g h 4 2 t6 _ H17).mono ?_; rintro e w18 ⟨rfl, b18⟩
  rw [show fullP 4 2 = false from by decide]
  have H18 := H17.call b18
  have B18 := Lib.hid (B17.out.call b18)
  clear H17 B17 b18
  go_wp2_with fail
  refine (slots_any g h 4 2 t6 _ H18).mono ?_; rintro e w19 ⟨v, rfl, O19, b19⟩
  obtain ⟨ao, cp, hv⟩ := row_form O19
  rw [keysL_len] at hv
  subst hv
  have H19 := H18.call b19
  have B19 := Lib.hid (B18.out.call b19)
  clear H18 B18 b19 O19
  go_wp2_with fail
  refine (slots_any g h 4 2 t6 _ H19).mono ?_; rintro e w20 ⟨v2, rfl, O20, b20⟩
  obtain ⟨p2, c2, hv2, hr2⟩ := OwnS.reads O20
  rw [keysL_len] at hv2
  subst hv2
  obtain ⟨b9, o9, rfl, k9⟩ := hr2 0 (by rw [keysL_len]; decide)
  rw [keysL_at, show keyO (t6 0) = kA from by decide +kernel] at k9
  simp only [Nat.add_zero] at k9
  have H20 := H19.call b20
  have B20 := Lib.hid (B19.out.call b20)
  clear H19 B19 b20 O20 hr2
  go_wp2_with fail
  refine (where_any g h 4 2 t6 k0' 4 2 false _ H20 (by decide) f9).mono ?_; rintro e w21 ⟨rfl, b21⟩
  rw [show whereP 2 false = -1 from rfl]
  have B21 := Lib.hid (B20.out.call b21)
  clear H20 B20 b21
  go_wp2_with fail
  go_ret
  exact ⟨rfl, B21.out.to hg hh (Nat.le_refl _)⟩
end Go.Proofs.Ytaenbnohkhmnbaa
