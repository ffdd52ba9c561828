/- Layer 5: awake: what every right program lets wait. -/
import Derived.Test.YtphgilgmoeliaaaF5E
import Derived.Test.YtphgilgmoeliaaaSameI
namespace Go.Proofs.Ytphgilgmoeliaaa
open Go.RowKit
set_option linter.unusedVariables false
set_option linter.unusedSimpArgs false

theorem OwnI.but {w w' : World} {B g h : Nat} {v : Value} {L : List Int} (H : OwnI w B v L) (hb : But2 w w' g h) (hg : g < B) (hh : h < B) : OwnI w' B v L := by
  obtain ⟨h1, h2⟩ := H
  refine ⟨h1, ?_⟩
  rcases h2 with h2 | ⟨q, cap, cur, hv, hB, hq, r⟩
  · exact .inl h2
  · exact .inr ⟨q, cap, cur, hv, hB, (hb.2 q (Array.getElem?_eq_some_iff.1 hq).1 (by omega) (by omega)).trans hq, r⟩

set_option maxRecDepth 100000 in
set_option maxHeartbeats 4000000 in
theorem awake_any (w : World) : Calls Try.prog 7 #[] w fun e w' => e = .returned (.bool true) ∧ Below w.heap.size w w' := by
  have p1 : putP 2 [] 5 = [5] := by decide
  have p2 : pushP 2 [5] 4 = [4, 5] := by decide
  have p3 : putP 2 [4, 5] 6 = [4, 5] := by decide
  go_enter Try.func7, Try.ntmps7
  go_wp2_with fail
  refine (new_yes 2 _ (by decide) (by decide)).mono ?_; rintro e w1 ⟨g, h, rfl, HR1, hg, hh, hb1⟩
  have B1 := Lib.hid (But2.below g h hb1)
  clear hb1
  go_wp2_with fail
  refine (put_any g h 2 [] 5 _ HR1).mono ?_; rintro e w2 ⟨rfl, HR2, b2⟩
  rw [p1] at HR2
  have B2 := Lib.hid (B1.out.trans b2)
  clear B1 b2 HR1
  go_wp2_with fail
  refine (push_any g h 2 [5] 4 _ HR2).mono ?_; rintro e w3 ⟨rfl, HR3, b3⟩
  rw [p2] at HR3
  have B3 := Lib.hid (B2.out.trans b3)
  clear B2 b3 HR2
  go_wp2_with fail
  refine (put_any g h 2 [4, 5] 6 _ HR3).mono ?_; rintro e w4 ⟨rfl, HR4, b4⟩
  rw [p3] at HR4
  have B4 := Lib.hid (B3.out.trans b4)
  clear B3 b4 HR3 p1 p2 p3
  go_wp2_with fail
  refine (at_any g h 2 [4, 5] 1 _ HR4).mono ?_; rintro e w5 ⟨rfl, b5⟩
  have HR5 := HR4.call b5
  have B5 := Lib.hid (B4.out.call b5)
  clear B4 b5 HR4
  go_wp2_with fail
  refine (all_any g h 2 [4, 5] _ HR5).mono ?_; rintro e w6 ⟨v, rfl, ho, b6⟩
  have lt5 := HR5.lt
  have HR6 := HR5.call b6
  have B6 := Lib.hid (B5.out.call b6)
  obtain ⟨ao, cp, hve⟩ := rowI_shape ho
  subst hve
  have HO6 := Lib.hid ho
  clear B5 b6 HR5 ho
  go_wp2_with fail
  refine (find_any g h 2 [4, 5] 5 _ HR6).mono ?_; rintro e w7 ⟨rfl, b7⟩
  have HR7 := HR6.call b7
  have B7 := Lib.hid (B6.out.call b7)
  have HO7 := Lib.hid (HO6.out.call b7)
  clear B6 b7 HR6 HO6
  go_wp2_with fail
  refine (take_any g h 2 [4, 5] _ HR7).mono ?_; rintro e w8 ⟨rfl, HR8, b8⟩
  have B8 := Lib.hid (B7.out.trans b8)
  have HO8 := Lib.hid (HO7.out.but b8 lt5.1 lt5.2.1)
  clear B7 b8 HR7 HO7
  go_wp2_with fail
  refine (room_any g h 2 [5] _ HR8).mono ?_; rintro e w9 ⟨rfl, b9⟩
  have HR9 : IsR w9 g h 2 [5] := IsR.call HR8 b9
  have B9 := Lib.hid (B8.out.call b9)
  have HO9 := Lib.hid (HO8.out.call b9)
  clear B8 b9 HR8 HO8
  go_wp2_with fail
  refine (drop_any g h 2 [5] 9 _ HR9).mono ?_; rintro e w10 ⟨rfl, HR10, b10⟩
  replace HR10 : IsR w10 g h 2 [] := HR10
  have B10 := Lib.hid (B9.out.trans b10)
  have HO10 := Lib.hid (HO9.out.but b10 lt5.1 lt5.2.1)
  clear B9 b10 HR9 HO9
  go_wp2_with fail
  refine (last_none g h 2 _ HR10).mono ?_; rintro e w11 ⟨rfl, HR11, b11⟩
  have B11 := Lib.hid (B10.out.trans b11)
  have HO11 := Lib.hid (HO10.out.but b11 lt5.1 lt5.2.1)
  clear B10 b11 HR10 HO10
  go_wp2_with fail
  refine (new_no 0 _ (by decide)).mono ?_; rintro e w12 ⟨rfl, b12⟩
  have HR12 := HR11.call b12
  have B12 := Lib.hid (B11.out.call b12)
  have HO12 := Lib.hid (HO11.out.call b12)
  clear B11 b12 HR11 HO11
  have q1 : findP [4, 5] 5 = 1 := by decide
  have q2 : dropK [5] 9 = 1 := by decide
  have q3 : findP [] 5 = -1 := by decide
  have hs : IsI (w12.alloc (.cells #[.int .i64 4, .int .i64 5] 3)) (.slice (some ⟨w12.heap.size, 0, none⟩) 2 2) [4, 5] := ⟨_, 2, rfl, fun j hj => ⟨w12.heap.size, 0, rfl, by
    have : j = 0 ∨ j = 1 := by simp at hj; omega
    rcases this with rfl | rfl <;> simp [go_sem]⟩⟩
  have ha : Below w12.heap.size w12 (w12.alloc (.cells #[.int .i64 4, .int .i64 5] 3)) := (Below.refl _ _).alloc (Nat.le_refl _) _
  have HS := Lib.hid hs
  have HI := Lib.hid (HO12.out.call ha).reads
  have HR13 := Lib.hid (HR12.call ha)
  have B13 := Lib.hid (B12.out.call ha)
  clear hs ha HO12 HR12 B12
  go_wp2_with fail
  refine (sameInts_any _ _ [4, 5] [4, 5] _ HI.out HS.out (by decide)).mono ?_; rintro e w14 ⟨rfl, b14⟩
  have HR14 := HR13.out.call b14
  have B14 := Lib.hid (B13.out.call b14)
  clear HR13 B13 b14 HI HS
  have q4 : sameIB [4, 5] [4, 5] = true := by decide
  go_wp2_with fail
  refine (len_any g h 2 [] _ HR14).mono ?_; rintro e w15 ⟨rfl, b15⟩
  have HR15 := HR14.call b15
  have B15 := Lib.hid (B14.out.call b15)
  clear HR14 B14 b15
  go_wp2_with fail
  refine (find_any g h 2 [] 5 _ HR15).mono ?_; rintro e w16 ⟨rfl, b16⟩
  have B16 := Lib.hid (B15.out.call b16)
  clear B15 b16
  go_wp2_with fail
  go_ret
  exact ⟨rfl, B16.out.to hg hh (Nat.le_refl _)⟩
end Go.Proofs.Ytphgilgmoeliaaa
