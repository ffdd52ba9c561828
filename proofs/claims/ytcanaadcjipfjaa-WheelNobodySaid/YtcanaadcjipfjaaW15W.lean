/- Layer 15: awake: what every right program tells when. -/
import Derived.Test.YtcanaadcjipfjaaW15S
import Derived.Test.YtcanaadcjipfjaaSameI
namespace Go.Proofs.Ytcanaadcjipfjaa
open Go.RowKit
set_option linter.unusedVariables false
set_option linter.unusedSimpArgs false

abbrev aL1 : List Du := [(7, 5)]
abbrev aL2 : List Du := [(3, 5), (7, 5)]
abbrev aL3 : List Du := [(3, 5), (7, 5), (9, 9)]
abbrev aL4 : List Du := [(3, 5), (7, 5), (9, 6)]
abbrev aL5 : List Du := [(9, 6)]
theorem a1 : setE 0 7 5 = 0 ∧ setW [] 0 7 5 = aL1 := by decide +kernel
theorem a2 : setE 0 3 5 = 0 ∧ setW aL1 0 3 5 = aL2 := by decide +kernel
theorem a3 : setE 0 9 9 = 0 ∧ setW aL2 0 9 9 = aL3 := by decide +kernel
theorem a4 : setE 0 9 6 = 0 ∧ setW aL3 0 9 6 = aL4 := by decide +kernel
theorem a5 : nextW aL4 = 5 ∧ decide (0 < aL4.length) = true := by decide +kernel
theorem a6 : loadW 4 aL4 = [0, 2, 1, 0] := by decide +kernel
theorem a7 : goL aL4 0 5 = aL2 ∧ goW aL4 0 5 = aL5 ∧ goN 0 5 = 5 := by decide +kernel
theorem a8 : setE 5 1 5 = 8 ∧ setW aL5 5 1 5 = aL5 := by decide +kernel
theorem a9 : whenW aL5 9 = 6 ∧ isW aL5 9 = true := by decide +kernel
theorem a10 : isW aL5 9 = true ∧ delW aL5 9 = [] := by decide +kernel
theorem a11 : isW [] 9 = false ∧ delW [] 9 = [] := by decide +kernel
/-- four numbers that are laid read as their list -/
theorem isI_lay4 {w : World} {b : Nat} {x y z t : Int} (h : w.cell? ⟨b, 0, none⟩ = some (.int .i64 x) ∧ w.cell? ⟨b, 1, none⟩ = some (.int .i64 y) ∧ w.cell? ⟨b, 2, none⟩ = some (.int .i64 z) ∧ w.cell? ⟨b, 3, none⟩ = some (.int .i64 t)) : IsI w (.slice (some ⟨b, 0, none⟩) 4 4) [x, y, z, t] :=
  ⟨_, 4, rfl, fun j hj => ⟨b, 0, rfl, by
    have : j = 0 ∨ j = 1 ∨ j = 2 ∨ j = 3 := by have : j < 4 := hj; omega
    rcases this with rfl | rfl | rfl | rfl
    · exact h.1
    · exact h.2.1
    · exact h.2.2.1
    · exact h.2.2.2⟩⟩
set_option maxRecDepth 100000 in
set_option maxHeartbeats 8000000 in
theorem awake_any (w : World) : Calls Try.prog 7 #[] w fun e w' => e = .returned (.bool true) ∧ Below w.heap.size w w' := by
  go_enter Try.func7, Try.ntmps7
  go_wp2_with fail
  refine (wnew_yes 4 _ (by decide)).mono ?_; rintro e w1 ⟨g, C, rfl, H1, hC1, hb1⟩
  have B1 := Lib.hid hb1
  have C1 := Lib.hid hC1
  clear hb1 hC1
  go_wp2_with fail
  refine (wset_any C g 4 0 [] _ H1 7 5 (by decide) (by decide)).mono ?_; rintro e w2 ⟨rfl, C2, H2, hC2, b2⟩
  rw [a1.1]
  rw [a1.2] at H2
  have B2 := Lib.hid (B1.out.trans (b2.to C1.out B1.out.size))
  have D2 := Lib.hid (show ∀ b, C2 b → w.heap.size ≤ b from fun b hb => by rcases hC2 b hb with h | h; exact C1.out b h; exact Nat.le_trans B1.out.size h)
  clear B1 C1 b2 hC2 H1
  go_wp2_with fail
  refine (wset_any C2 g 4 0 aL1 _ H2 3 5 (by decide) (by decide)).mono ?_; rintro e w3 ⟨rfl, C3, H3, hC3, b3⟩
  rw [a2.1]
  rw [a2.2] at H3
  have B3 := Lib.hid (B2.out.trans (b3.to D2.out B2.out.size))
  have D3 := Lib.hid (show ∀ b, C3 b → w.heap.size ≤ b from fun b hb => by rcases hC3 b hb with h | h; exact D2.out b h; exact Nat.le_trans B2.out.size h)
  clear B2 D2 b3 hC3 H2
  go_wp2_with fail
  refine (wset_any C3 g 4 0 aL2 _ H3 9 9 (by decide) (by decide)).mono ?_; rintro e w4 ⟨rfl, C4, H4, hC4, b4⟩
  rw [a3.1]
  rw [a3.2] at H4
  have B4 := Lib.hid (B3.out.trans (b4.to D3.out B3.out.size))
  have D4 := Lib.hid (show ∀ b, C4 b → w.heap.size ≤ b from fun b hb => by rcases hC4 b hb with h | h; exact D3.out b h; exact Nat.le_trans B3.out.size h)
  clear B3 D3 b4 hC4 H3
  go_wp2_with fail
  refine (wset_any C4 g 4 0 aL3 _ H4 9 6 (by decide) (by decide)).mono ?_; rintro e w5 ⟨rfl, C5, H5, hC5, b5⟩
  rw [a4.1]
  rw [a4.2] at H5
  have B5 := Lib.hid (B4.out.trans (b5.to D4.out B4.out.size))
  have D5 := Lib.hid (show ∀ b, C5 b → w.heap.size ≤ b from fun b hb => by rcases hC5 b hb with h | h; exact D4.out b h; exact Nat.le_trans B4.out.size h)
  clear B4 D4 b5 hC5 H4
  go_wp2_with fail
  refine (wnext_any C5 g 4 0 aL4 _ H5).mono ?_; rintro e w6 ⟨rfl, hb6⟩
  rw [a5.1, a5.2]
  have H6 := H5.keep (fun b hb => hb6.block b (H5.lt b hb))
  have B6 := Lib.hid (below_call hb6 B5.out.size B5.out)
  clear B5 hb6 H5
  go_wp2_with fail
  refine (wload_any C5 g 4 0 aL4 _ H6).mono ?_; rintro e w7 ⟨v7, rfl, O7, hb7⟩
  rw [a6] at O7
  have F7 := far_new O7 H6.lt
  have H7 := H6.keep (fun b hb => hb7.block b (H6.lt b hb))
  have B7 := Lib.hid (below_call hb7 B6.out.size B6.out)
  clear B6 hb7 H6
  go_wp2_with fail
  refine (wgo_any C5 g 4 0 aL4 _ H7 5 (by decide)).mono ?_; rintro e w8 ⟨v8, rfl, R8, C8, H8, hC8, b8⟩
  rw [a7.1] at R8
  rw [a7.2.1, a7.2.2] at H8
  have O8 := row_but O7 F7 b8
  have F8 := far_step O7 F7 hC8
  have B8 := Lib.hid (B7.out.trans (b8.to D5.out B7.out.size))
  have D8 := Lib.hid (show ∀ b, C8 b → w.heap.size ≤ b from fun b hb => by rcases hC8 b hb with h | h; exact D5.out b h; exact Nat.le_trans B7.out.size h)
  clear B7 D5 b8 hC8 H7 O7 F7
  go_wp2_with fail
  refine (due_any v8 aL2 _ (R8.reads duC_len) (by decide)).mono ?_; rintro e w9 ⟨v9, rfl, R9, hb9⟩
  have H9 := H8.keep (fun b hb => hb9.block b (H8.lt b hb))
  have G9 := far_new R9 H8.lt
  have O9 := World.ownsRow.call' O8 hb9
  have B9 := Lib.hid (below_call hb9 B8.out.size B8.out)
  clear B8 hb9 H8 O8 R8
  go_wp2_with fail
  refine (wset_any C8 g 4 5 aL5 _ H9 1 5 (by decide) (by decide)).mono ?_; rintro e w10 ⟨rfl, C10, H10, hC10, b10⟩
  rw [a8.1]
  rw [a8.2] at H10
  have O10 := row_but O9 F8 b10
  have F10 := far_step O9 F8 hC10
  have R10 := row_but R9 G9 b10
  have G10 := far_step R9 G9 hC10
  have B10 := Lib.hid (B9.out.trans (b10.to D8.out B9.out.size))
  have D10 := Lib.hid (show ∀ b, C10 b → w.heap.size ≤ b from fun b hb => by rcases hC10 b hb with h | h; exact D8.out b h; exact Nat.le_trans B9.out.size h)
  clear B9 D8 b10 hC10 H9 O9 F8 R9 G9
  go_wp2_with fail
  refine (wwhen_any C10 g 4 5 aL5 _ H10 9 (by decide)).mono ?_; rintro e w11 ⟨rfl, hb11⟩
  rw [a9.1, a9.2]
  have H11 := H10.keep (fun b hb => hb11.block b (H10.lt b hb))
  have O11 := World.ownsRow.call' O10 hb11
  have R11 := World.ownsRow.call' R10 hb11
  have B11 := Lib.hid (below_call hb11 B10.out.size B10.out)
  clear B10 hb11 H10 O10 R10
  go_wp2_with fail
  refine (wstop_any C10 g 4 5 aL5 _ H11 9 (by decide)).mono ?_; rintro e w12 ⟨rfl, C12, H12, hC12, b12⟩
  rw [a10.1]
  rw [a10.2] at H12
  have O12 := row_but O11 F10 b12
  have F12 := far_step O11 F10 hC12
  have R12 := row_but R11 G10 b12
  have G12 := far_step R11 G10 hC12
  have B12 := Lib.hid (B11.out.trans (b12.to D10.out B11.out.size))
  have D12 := Lib.hid (show ∀ b, C12 b → w.heap.size ≤ b from fun b hb => by rcases hC12 b hb with h | h; exact D10.out b h; exact Nat.le_trans B11.out.size h)
  clear B11 D10 b12 hC12 H11 O11 F10 R11 G10
  go_wp2_with fail
  refine (wstop_any C12 g 4 5 [] _ H12 9 (by decide)).mono ?_; rintro e w13 ⟨rfl, C13, H13, hC13, b13⟩
  rw [a11.1]
  rw [a11.2] at H13
  have O13 := Lib.hid (row_but O12 F12 b13)
  have R13 := Lib.hid (row_but R12 G12 b13)
  have B13 := Lib.hid (B12.out.trans (b13.to D12.out B12.out.size))
  clear B12 D12 b13 hC13 H12 O12 F12 R12 G12
  go_wp2_with fail
  refine (wnew_no 0 _ (by decide) (by decide)).mono ?_; rintro e w14 ⟨rfl, hb14⟩
  have H14 := H13.keep (fun b hb => hb14.block b (H13.lt b hb))
  have O14 : OwnI w14 w6.heap.size v7 [0, 2, 1, 0] := World.ownsRow.call' O13.out hb14
  have R14 : OwnR 65 2 duC w14 w8.heap.size v9 aL2 := World.ownsRow.call' R13.out hb14
  have B14 := Lib.hid (below_call hb14 B13.out.size B13.out)
  have IO := Lib.hid O14.reads
  have IR := Lib.hid (R14.reads duC_len)
  have H14 := Lib.hid H14
  clear B13 hb14 H13 O13 R13 O14 R14
  have ha : Below w14.heap.size w14 (w14.alloc (.cells #[.int .i64 0, .int .i64 2, .int .i64 1, .int .i64 0] 3)) := (Below.refl _ _).alloc (Nat.le_refl _) _
  have I2 := Lib.hid (show IsI (w14.alloc (.cells #[.int .i64 0, .int .i64 2, .int .i64 1, .int .i64 0] 3)) (.slice (some ⟨w14.heap.size, 0, none⟩) 4 4) [0, 2, 1, 0] from isI_lay4 (by simp [go_sem]))
  have IO2 := Lib.hid (IO.out.call ha)
  have IR2 := Lib.hid (IR.out.call ha)
  have H15 := Lib.hid (H14.out.keep (fun b hb => ha.block b (H14.out.lt b hb)))
  have B15 := Lib.hid (below_call ha B14.out.size B14.out)
  clear ha B14 H14 IO IR
  go_wp2_with fail
  refine (sameInts_any _ _ _ _ _ IO2.out I2.out (by decide)).mono ?_; rintro e w16 ⟨rfl, hb16⟩
  rw [sameIB_self]
  have IR3 := Lib.hid (IR2.out.call hb16)
  have H16 := Lib.hid (H15.out.keep (fun b hb => hb16.block b (H15.out.lt b hb)))
  have B16 := Lib.hid (below_call hb16 B15.out.size B15.out)
  clear hb16 B15 H15 IO2 IR2 I2
  have ha : Below w16.heap.size w16 (w16.alloc (.cells #[.int .i64 3, .int .i64 5, .int .i64 7, .int .i64 5] 65)) := (Below.refl _ _).alloc (Nat.le_refl _) _
  have J2 := Lib.hid (show IsR 2 duC (w16.alloc (.cells #[.int .i64 3, .int .i64 5, .int .i64 7, .int .i64 5] 65)) (.slice (some ⟨w16.heap.size, 0, none⟩) 2 2) aL2 from isR_block duC_len w16 aL2 _ _ 2 2 rfl rfl rfl)
  have IR4 := Lib.hid (IR3.out.call ha)
  have H17 := Lib.hid (H16.out.keep (fun b hb => ha.block b (H16.out.lt b hb)))
  have B17 := Lib.hid (below_call ha B16.out.size B16.out)
  clear ha B16 H16 IR3
  go_wp2_with fail
  refine (samedue_any _ _ _ _ _ IR4.out J2.out (by decide) (by decide)).mono ?_; rintro e w18 ⟨rfl, hb18⟩
  rw [show decide (aL2 = aL2) = true from decide_eq_true rfl]
  have H18 := Lib.hid (H17.out.keep (fun b hb => hb18.block b (H17.out.lt b hb)))
  have B18 := Lib.hid (below_call hb18 B17.out.size B17.out)
  clear hb18 B17 H17 IR4 J2
  go_wp2_with fail
  refine (wlen_any C13 g 4 5 [] _ H18.out).mono ?_; rintro e w19 ⟨rfl, hb19⟩
  have H19 := Lib.hid (H18.out.keep (fun b hb => hb19.block b (H18.out.lt b hb)))
  have B19 := Lib.hid (below_call hb19 B18.out.size B18.out)
  clear hb19 B18 H18
  go_wp2_with fail
  refine (wnow_any C13 g 4 5 [] _ H19.out).mono ?_; rintro e w20 ⟨rfl, hb20⟩
  have B20 := Lib.hid (below_call hb20 B19.out.size B19.out)
  clear hb20 B19 H19
  go_wp2_with fail
  go_ret
  exact ⟨rfl, B20.out⟩
end Go.Proofs.Ytcanaadcjipfjaa
