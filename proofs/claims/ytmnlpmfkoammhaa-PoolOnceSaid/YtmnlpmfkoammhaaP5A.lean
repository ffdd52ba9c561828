/- The closed call that each statement of layer 3 ends with: it is true. -/
import Derived.Test.YtmnlpmfkoammhaaP4K
import Derived.Test.YtmnlpmfkoammhaaP4L
import Derived.Test.YtmnlpmfkoammhaaP4M
import Derived.Test.YtmnlpmfkoammhaaP4N
import Derived.Test.YtmnlpmfkoammhaaP4S
import Derived.Test.YtmnlpmfkoammhaaP3R
namespace Go.Proofs.Ytmnlpmfkoammhaa
open Go.RowKit
set_option linter.unusedVariables false
set_option linter.unusedSimpArgs false

theorem two_nums {w : World} (a b : Int) : IsI (w.alloc (.cells #[.int .i64 a, .int .i64 b] 3)) (.slice (some ⟨w.heap.size, 0, none⟩) 2 2) [a, b] := by
  refine ⟨_, 2, rfl, fun j hj => ⟨w.heap.size, 0, rfl, ?_⟩⟩
  have : j = 0 ∨ j = 1 := by simp at hj; omega
  rcases this with rfl | rfl <;> simp [go_sem]
theorem nil_st (w : World) : IsSt w (.slice none 0 0) (.slice none 0 0) ([], []) := ⟨⟨none, 0, rfl, fun j hj => by cases hj⟩, ⟨none, 0, rfl, fun j hj => by cases hj⟩⟩
theorem aw_ex : ∃ A B C D E V X Y : St, newN 2 = (A, 0) ∧ takeN A 5 = (B, 0, 0) ∧ giveN B 0 = (C, 0) ∧ takeN C 7 = (D, 64, 0) ∧ giveN D 0 = (E, 6) ∧ getN D 64 = (7, true) ∧ getN D 0 = (0, false) ∧
    setN D 64 9 = (V, 0) ∧ takeN V 1 = (X, 1, 0) ∧ takeN X 1 = (Y, 0, 7) ∧ hanN X = [64, 1] ∧ chkN X = 0 ∧ sameB V X = false ∧
    (A.1.length ≤ 2 ∧ A.2.length ≤ 2) ∧ (B.1.length ≤ 2 ∧ B.2.length ≤ 2) ∧ (C.1.length ≤ 2 ∧ C.2.length ≤ 2) ∧ (D.1.length ≤ 2 ∧ D.2.length ≤ 2) ∧ (V.1.length ≤ 2 ∧ V.2.length ≤ 2) ∧ (X.1.length ≤ 2 ∧ X.2.length ≤ 2) :=
  ⟨awA, awB, awC, awD, (giveN awD 0).1, awW, awX, (takeN awX 1).1, by decide +kernel, by decide +kernel, by decide +kernel, by decide +kernel, by decide +kernel, by decide +kernel, by decide +kernel, by decide +kernel, by decide +kernel, by decide +kernel, by decide +kernel, by decide +kernel, by decide +kernel, ⟨by decide +kernel, by decide +kernel⟩, ⟨by decide +kernel, by decide +kernel⟩, ⟨by decide +kernel, by decide +kernel⟩, ⟨by decide +kernel, by decide +kernel⟩, ⟨by decide +kernel, by decide +kernel⟩, ⟨by decide +kernel, by decide +kernel⟩⟩

set_option maxRecDepth 100000 in
set_option maxHeartbeats 16000000 in
theorem awake_any (w : World) : Calls Try.prog 8 #[] w fun e w' => e = .returned (.bool true) ∧ Below w.heap.size w w' := by
  obtain ⟨A, B, C, D, E, V, X, Y, h1, h2, h3, h4, h5, h6, h7, h8, h9, h10, h11, h12, h13, lA, lB, lC, lD, lV, lX⟩ := aw_ex
  have hsxx := sameB_self X
  have c1 := fun W => new_any 2 W
  rw [h1] at c1
  have c2 := fun vc vf W (hv : IsSt W vc vf A) (hcap : CapOk vf) => take_any vc vf A 5 W hv hcap (by omega) (by omega)
  rw [h2] at c2
  have c3 := fun vc vf W (hv : IsSt W vc vf B) (hcap : CapOk vf) => give_any vc vf B 0 W hv hcap (by omega) (by omega)
  rw [h3] at c3
  have c4 := fun vc vf W (hv : IsSt W vc vf C) (hcap : CapOk vf) => take_any vc vf C 7 W hv hcap (by omega) (by omega)
  rw [h4] at c4
  have c5 := fun vc vf W (hv : IsSt W vc vf D) (hcap : CapOk vf) => give_any vc vf D 0 W hv hcap (by omega) (by omega)
  rw [h5] at c5
  have c6 := fun vc vf W (hv : IsSt W vc vf D) => get_any vc vf D 64 W hv (by omega) (by omega)
  rw [h6] at c6
  have c7 := fun vc vf W (hv : IsSt W vc vf D) => get_any vc vf D 0 W hv (by omega) (by omega)
  rw [h7] at c7
  have c8 := fun vc vf W (hv : IsSt W vc vf D) (hcap : CapOk vf) => set_any vc vf D 64 9 W hv hcap (by omega) (by omega)
  rw [h8] at c8
  have c9 := fun vc vf W (hv : IsSt W vc vf V) (hcap : CapOk vf) => take_any vc vf V 1 W hv hcap (by omega) (by omega)
  rw [h9] at c9
  have c10 := fun vc vf W (hv : IsSt W vc vf X) (hcap : CapOk vf) => take_any vc vf X 1 W hv hcap (by omega) (by omega)
  rw [h10] at c10
  have c11 := fun vc vf W (hv : IsSt W vc vf X) => han_any vc vf X W hv (by omega) (by omega)
  rw [h11] at c11
  have c13 := fun vc vf W (hv : IsSt W vc vf X) => used_any vc vf X W hv (by omega) (by omega)
  rw [h11] at c13
  have c14 := fun vc vf W (hv : IsSt W vc vf X) => check_any vc vf X W hv (by omega) (by omega)
  rw [h12] at c14
  have c15 := fun W => check_any _ _ ([], []) W (nil_st W) (by decide) (by decide)
  rw [aw_all.2.2.2.2.2.2.2.2.2.2.2.2.1] at c15
  have c16 := fun vc vf uc uf W (hv : IsSt W vc vf V) (hu : IsSt W uc uf X) => same_any vc vf uc uf V X W hv hu (by omega) (by omega) (by omega)
  rw [h13] at c16
  have c17 := fun vc vf uc uf W (hv : IsSt W vc vf X) (hu : IsSt W uc uf X) => same_any vc vf uc uf X X W hv hu (by omega) (by omega) (by omega)
  rw [hsxx] at c17
  have c12 := fun v1 v2 W (hv : IsI W v1 [64, 1]) (hu : IsI W v2 [64, 1]) => sameInts_any v1 v2 [64, 1] [64, 1] W hv hu (by decide)
  rw [sameIB_self] at c12
  clear h1 h2 h3 h4 h5 h6 h7 h8 h9 h10 h11 h12 h13 hsxx
  go_enter Try.func8, Try.ntmps8
  go_wp2_with fail
  refine (c1 _).mono ?_; rintro e w1 ⟨vcA, vfA, rfl, sA, kA, hb1⟩
  have hs1 := hb1.size; (try simp only [World.size_alloc, World.size_setCell] at hs1)
  obtain ⟨⟨pA, cA, rfl, -⟩, ⟨qA, dA, rfl, -⟩⟩ := id sA
  have SA := Lib.hid sA; have KA := Lib.hid kA; clear sA kA
  clear c1
  go_wp2_with fail
  refine (c2 _ _ _ (by exact SA.out.call (by (repeat (first | (with_reducible exact Below.refl _ _) | ((with_reducible refine below_alloc ?_ ?_ _); · (first | omega | (simp; done) | (simp; omega))) | ((with_reducible refine below_setCell ?_ ?_ _); · (first | omega | (simp; done) | (simp; omega))) | (with_reducible refine Below.drew ?_) | (with_reducible refine below_drewN ?_ _) | ((with_reducible refine below_call (by assumption) ?_ ?_); · (first | omega | (simp; done) | (simp; omega))))))) KA.out).mono ?_
  rintro e w2 ⟨vcB, vfB, rfl, sB, kB, hb2⟩
  have hs2 := hb2.size; (try simp only [World.size_alloc, World.size_setCell] at hs2)
  obtain ⟨⟨pB, cB, rfl, -⟩, ⟨qB, dB, rfl, -⟩⟩ := id sB
  have SB := Lib.hid sB; have KB := Lib.hid kB; clear sB kB
  clear c2
  go_wp2_with fail
  refine (c3 _ _ _ (by exact SB.out.call (by (repeat (first | (with_reducible exact Below.refl _ _) | ((with_reducible refine below_alloc ?_ ?_ _); · (first | omega | (simp; done) | (simp; omega))) | ((with_reducible refine below_setCell ?_ ?_ _); · (first | omega | (simp; done) | (simp; omega))) | (with_reducible refine Below.drew ?_) | (with_reducible refine below_drewN ?_ _) | ((with_reducible refine below_call (by assumption) ?_ ?_); · (first | omega | (simp; done) | (simp; omega))))))) KB.out).mono ?_
  rintro e w3 ⟨vcC, vfC, rfl, sC, kC, hb3⟩
  have hs3 := hb3.size; (try simp only [World.size_alloc, World.size_setCell] at hs3)
  obtain ⟨⟨pC, cC, rfl, -⟩, ⟨qC, dC, rfl, -⟩⟩ := id sC
  have SC := Lib.hid sC; have KC := Lib.hid kC; clear sC kC
  clear c3
  go_wp2_with fail
  refine (c4 _ _ _ (by exact SC.out.call (by (repeat (first | (with_reducible exact Below.refl _ _) | ((with_reducible refine below_alloc ?_ ?_ _); · (first | omega | (simp; done) | (simp; omega))) | ((with_reducible refine below_setCell ?_ ?_ _); · (first | omega | (simp; done) | (simp; omega))) | (with_reducible refine Below.drew ?_) | (with_reducible refine below_drewN ?_ _) | ((with_reducible refine below_call (by assumption) ?_ ?_); · (first | omega | (simp; done) | (simp; omega))))))) KC.out).mono ?_
  rintro e w4 ⟨vcD, vfD, rfl, sD, kD, hb4⟩
  have hs4 := hb4.size; (try simp only [World.size_alloc, World.size_setCell] at hs4)
  obtain ⟨⟨pD, cD, rfl, -⟩, ⟨qD, dD, rfl, -⟩⟩ := id sD
  have SD := Lib.hid sD; have KD := Lib.hid kD; clear sD kD
  clear c4
  go_wp2_with fail
  refine (c5 _ _ _ (by exact SD.out.call (by (repeat (first | (with_reducible exact Below.refl _ _) | ((with_reducible refine below_alloc ?_ ?_ _); · (first | omega | (simp; done) | (simp; omega))) | ((with_reducible refine below_setCell ?_ ?_ _); · (first | omega | (simp; done) | (simp; omega))) | (with_reducible refine Below.drew ?_) | (with_reducible refine below_drewN ?_ _) | ((with_reducible refine below_call (by assumption) ?_ ?_); · (first | omega | (simp; done) | (simp; omega))))))) KD.out).mono ?_
  rintro e w5 ⟨vcE, vfE, rfl, sE, kE, hb5⟩
  have hs5 := hb5.size; (try simp only [World.size_alloc, World.size_setCell] at hs5)
  obtain ⟨hk5, hf5, hz5⟩ := bcellN (n := w.heap.size + 0) (by (try simp only [World.size_drew, World.size_alloc, World.size_setCell]); omega) hb5; obtain ⟨hk5w4, hf5w4, hz5w4⟩ := bcellAt (b := w4.heap.size) (by (try simp only [World.size_drew, World.size_alloc, World.size_setCell]); omega) hb5
  obtain ⟨⟨pE, cE, rfl, -⟩, ⟨qE, dE, rfl, -⟩⟩ := id sE
  have SE := Lib.hid sE; have KE := Lib.hid kE; clear sE kE
  clear c5
  go_wp2_with fail
  refine (c6 _ _ _ (by exact SD.out.call (by (repeat (first | (with_reducible exact Below.refl _ _) | ((with_reducible refine below_alloc ?_ ?_ _); · (first | omega | (simp; done) | (simp; omega))) | ((with_reducible refine below_setCell ?_ ?_ _); · (first | omega | (simp; done) | (simp; omega))) | (with_reducible refine Below.drew ?_) | (with_reducible refine below_drewN ?_ _) | ((with_reducible refine below_call (by assumption) ?_ ?_); · (first | omega | (simp; done) | (simp; omega)))))))).mono ?_
  rintro e w6 ⟨rfl, hb6⟩
  have hs6 := hb6.size; (try simp only [World.size_alloc, World.size_setCell] at hs6)
  obtain ⟨hk6, hf6, hz6⟩ := bcellN (n := w.heap.size + 0) (by (try simp only [World.size_drew, World.size_alloc, World.size_setCell]); omega) hb6; obtain ⟨hk6w4, hf6w4, hz6w4⟩ := bcellAt (b := w4.heap.size) (by (try simp only [World.size_drew, World.size_alloc, World.size_setCell]); omega) hb6
  clear c6
  go_wp2_with fail
  refine (c7 _ _ _ (by exact SD.out.call (by (repeat (first | (with_reducible exact Below.refl _ _) | ((with_reducible refine below_alloc ?_ ?_ _); · (first | omega | (simp; done) | (simp; omega))) | ((with_reducible refine below_setCell ?_ ?_ _); · (first | omega | (simp; done) | (simp; omega))) | (with_reducible refine Below.drew ?_) | (with_reducible refine below_drewN ?_ _) | ((with_reducible refine below_call (by assumption) ?_ ?_); · (first | omega | (simp; done) | (simp; omega)))))))).mono ?_
  rintro e w7 ⟨rfl, hb7⟩
  have hs7 := hb7.size; (try simp only [World.size_alloc, World.size_setCell] at hs7)
  obtain ⟨hk7, hf7, hz7⟩ := bcellN (n := w.heap.size + 0) (by (try simp only [World.size_drew, World.size_alloc, World.size_setCell]); omega) hb7; obtain ⟨hk7w4, hf7w4, hz7w4⟩ := bcellAt (b := w4.heap.size) (by (try simp only [World.size_drew, World.size_alloc, World.size_setCell]); omega) hb7
  clear c7
  go_wp2_with fail
  refine (c8 _ _ _ (by exact SD.out.call (by (repeat (first | (with_reducible exact Below.refl _ _) | ((with_reducible refine below_alloc ?_ ?_ _); · (first | omega | (simp; done) | (simp; omega))) | ((with_reducible refine below_setCell ?_ ?_ _); · (first | omega | (simp; done) | (simp; omega))) | (with_reducible refine Below.drew ?_) | (with_reducible refine below_drewN ?_ _) | ((with_reducible refine below_call (by assumption) ?_ ?_); · (first | omega | (simp; done) | (simp; omega))))))) KD.out).mono ?_
  rintro e w8 ⟨vcV, vfV, rfl, sV, kV, hb8⟩
  have hs8 := hb8.size; (try simp only [World.size_alloc, World.size_setCell] at hs8)
  obtain ⟨⟨pV, cV, rfl, -⟩, ⟨qV, dV, rfl, -⟩⟩ := id sV
  have SV := Lib.hid sV; have KV := Lib.hid kV; clear sV kV
  clear c8
  go_wp2_with fail
  refine (c9 _ _ _ (by exact SV.out.call (by (repeat (first | (with_reducible exact Below.refl _ _) | ((with_reducible refine below_alloc ?_ ?_ _); · (first | omega | (simp; done) | (simp; omega))) | ((with_reducible refine below_setCell ?_ ?_ _); · (first | omega | (simp; done) | (simp; omega))) | (with_reducible refine Below.drew ?_) | (with_reducible refine below_drewN ?_ _) | ((with_reducible refine below_call (by assumption) ?_ ?_); · (first | omega | (simp; done) | (simp; omega))))))) KV.out).mono ?_
  rintro e w9 ⟨vcX, vfX, rfl, sX, kX, hb9⟩
  have hs9 := hb9.size; (try simp only [World.size_alloc, World.size_setCell] at hs9)
  obtain ⟨hk9, hf9, hz9⟩ := bcellN (n := w.heap.size + 0) (by (try simp only [World.size_drew, World.size_alloc, World.size_setCell]); omega) hb9; obtain ⟨hk9w8, hf9w8, hz9w8⟩ := bcellAt (b := w8.heap.size) (by (try simp only [World.size_drew, World.size_alloc, World.size_setCell]); omega) hb9
  obtain ⟨⟨pX, cX, rfl, -⟩, ⟨qX, dX, rfl, -⟩⟩ := id sX
  have SX := Lib.hid sX; have KX := Lib.hid kX; clear sX kX
  clear c9
  go_wp2_with fail
  refine (c10 _ _ _ (by exact SX.out.call (by (repeat (first | (with_reducible exact Below.refl _ _) | ((with_reducible refine below_alloc ?_ ?_ _); · (first | omega | (simp; done) | (simp; omega))) | ((with_reducible refine below_setCell ?_ ?_ _); · (first | omega | (simp; done) | (simp; omega))) | (with_reducible refine Below.drew ?_) | (with_reducible refine below_drewN ?_ _) | ((with_reducible refine below_call (by assumption) ?_ ?_); · (first | omega | (simp; done) | (simp; omega))))))) KX.out).mono ?_
  rintro e w10 ⟨vcY, vfY, rfl, sY, kY, hb10⟩
  have hs10 := hb10.size; (try simp only [World.size_alloc, World.size_setCell] at hs10)
  obtain ⟨hk10, hf10, hz10⟩ := bcellN (n := w.heap.size + 0) (by (try simp only [World.size_drew, World.size_alloc, World.size_setCell]); omega) hb10; obtain ⟨hk10w8, hf10w8, hz10w8⟩ := bcellAt (b := w8.heap.size) (by (try simp only [World.size_drew, World.size_alloc, World.size_setCell]); omega) hb10; obtain ⟨hk10w9, hf10w9, hz10w9⟩ := bcellAt (b := w9.heap.size) (by (try simp only [World.size_drew, World.size_alloc, World.size_setCell]); omega) hb10
  obtain ⟨⟨pY, cY, rfl, -⟩, ⟨qY, dY, rfl, -⟩⟩ := id sY
  have SY := Lib.hid sY; have KY := Lib.hid kY; clear sY kY
  clear c10
  go_wp2_with fail
  refine (c11 _ _ _ (by exact SX.out.call (by (repeat (first | (with_reducible exact Below.refl _ _) | ((with_reducible refine below_alloc ?_ ?_ _); · (first | omega | (simp; done) | (simp; omega))) | ((with_reducible refine below_setCell ?_ ?_ _); · (first | omega | (simp; done) | (simp; omega))) | (with_reducible refine Below.drew ?_) | (with_reducible refine below_drewN ?_ _) | ((with_reducible refine below_call (by assumption) ?_ ?_); · (first | omega | (simp; done) | (simp; omega)))))))).mono ?_
  rintro e w11 ⟨v11, rfl, o11, hb11⟩; have O11 := Lib.hid o11; clear o11
  have hs11 := hb11.size; (try simp only [World.size_alloc, World.size_setCell] at hs11)
  obtain ⟨hk11, hf11, hz11⟩ := bcellN (n := w.heap.size + 0) (by (try simp only [World.size_drew, World.size_alloc, World.size_setCell]); omega) hb11; obtain ⟨hk11w8, hf11w8, hz11w8⟩ := bcellAt (b := w8.heap.size) (by (try simp only [World.size_drew, World.size_alloc, World.size_setCell]); omega) hb11; obtain ⟨hk11w9, hf11w9, hz11w9⟩ := bcellAt (b := w9.heap.size) (by (try simp only [World.size_drew, World.size_alloc, World.size_setCell]); omega) hb11
  go_wp2_with fail
  refine (c12 _ _ _ (by exact O11.out.reads.call (by (repeat (first | (with_reducible exact Below.refl _ _) | ((with_reducible refine below_alloc ?_ ?_ _); · (first | omega | (simp; done) | (simp; omega))) | ((with_reducible refine below_setCell ?_ ?_ _); · (first | omega | (simp; done) | (simp; omega))) | (with_reducible refine Below.drew ?_) | (with_reducible refine below_drewN ?_ _) | ((with_reducible refine below_call (by assumption) ?_ ?_); · (first | omega | (simp; done) | (simp; omega))))))) (two_nums 64 1)).mono ?_
  rintro e w12 ⟨rfl, hb12⟩
  have hs12 := hb12.size; (try simp only [World.size_alloc, World.size_setCell] at hs12)
  obtain ⟨hk12, hf12, hz12⟩ := bcellN (n := w.heap.size + 0) (by (try simp only [World.size_drew, World.size_alloc, World.size_setCell]); omega) hb12; obtain ⟨hk12w8, hf12w8, hz12w8⟩ := bcellAt (b := w8.heap.size) (by (try simp only [World.size_drew, World.size_alloc, World.size_setCell]); omega) hb12; obtain ⟨hk12w9, hf12w9, hz12w9⟩ := bcellAt (b := w9.heap.size) (by (try simp only [World.size_drew, World.size_alloc, World.size_setCell]); omega) hb12
  go_wp2_with fail
  refine (c13 _ _ _ (by exact SX.out.call (by (repeat (first | (with_reducible exact Below.refl _ _) | ((with_reducible refine below_alloc ?_ ?_ _); · (first | omega | (simp; done) | (simp; omega))) | ((with_reducible refine below_setCell ?_ ?_ _); · (first | omega | (simp; done) | (simp; omega))) | (with_reducible refine Below.drew ?_) | (with_reducible refine below_drewN ?_ _) | ((with_reducible refine below_call (by assumption) ?_ ?_); · (first | omega | (simp; done) | (simp; omega)))))))).mono ?_
  rintro e w13 ⟨rfl, hb13⟩
  have hs13 := hb13.size; (try simp only [World.size_alloc, World.size_setCell] at hs13)
  obtain ⟨hk13, hf13, hz13⟩ := bcellN (n := w.heap.size + 0) (by (try simp only [World.size_drew, World.size_alloc, World.size_setCell]); omega) hb13; obtain ⟨hk13w8, hf13w8, hz13w8⟩ := bcellAt (b := w8.heap.size) (by (try simp only [World.size_drew, World.size_alloc, World.size_setCell]); omega) hb13; obtain ⟨hk13w9, hf13w9, hz13w9⟩ := bcellAt (b := w9.heap.size) (by (try simp only [World.size_drew, World.size_alloc, World.size_setCell]); omega) hb13
  go_wp2_with fail
  refine (c14 _ _ _ (by exact SX.out.call (by (repeat (first | (with_reducible exact Below.refl _ _) | ((with_reducible refine below_alloc ?_ ?_ _); · (first | omega | (simp; done) | (simp; omega))) | ((with_reducible refine below_setCell ?_ ?_ _); · (first | omega | (simp; done) | (simp; omega))) | (with_reducible refine Below.drew ?_) | (with_reducible refine below_drewN ?_ _) | ((with_reducible refine below_call (by assumption) ?_ ?_); · (first | omega | (simp; done) | (simp; omega)))))))).mono ?_
  rintro e w14 ⟨rfl, hb14⟩
  have hs14 := hb14.size; (try simp only [World.size_alloc, World.size_setCell] at hs14)
  obtain ⟨hk14, hf14, hz14⟩ := bcellN (n := w.heap.size + 0) (by (try simp only [World.size_drew, World.size_alloc, World.size_setCell]); omega) hb14; obtain ⟨hk14w8, hf14w8, hz14w8⟩ := bcellAt (b := w8.heap.size) (by (try simp only [World.size_drew, World.size_alloc, World.size_setCell]); omega) hb14; obtain ⟨hk14w9, hf14w9, hz14w9⟩ := bcellAt (b := w9.heap.size) (by (try simp only [World.size_drew, World.size_alloc, World.size_setCell]); omega) hb14
  go_wp2_with fail
  refine (c15 _).mono ?_
  rintro e w15 ⟨rfl, hb15⟩
  have hs15 := hb15.size; (try simp only [World.size_alloc, World.size_setCell] at hs15)
  obtain ⟨hk15, hf15, hz15⟩ := bcellN (n := w.heap.size + 0) (by (try simp only [World.size_drew, World.size_alloc, World.size_setCell]); omega) hb15; obtain ⟨hk15w8, hf15w8, hz15w8⟩ := bcellAt (b := w8.heap.size) (by (try simp only [World.size_drew, World.size_alloc, World.size_setCell]); omega) hb15; obtain ⟨hk15w9, hf15w9, hz15w9⟩ := bcellAt (b := w9.heap.size) (by (try simp only [World.size_drew, World.size_alloc, World.size_setCell]); omega) hb15
  go_wp2_with fail
  refine (c16 _ _ _ _ _ (by exact SV.out.call (by (repeat (first | (with_reducible exact Below.refl _ _) | ((with_reducible refine below_alloc ?_ ?_ _); · (first | omega | (simp; done) | (simp; omega))) | ((with_reducible refine below_setCell ?_ ?_ _); · (first | omega | (simp; done) | (simp; omega))) | (with_reducible refine Below.drew ?_) | (with_reducible refine below_drewN ?_ _) | ((with_reducible refine below_call (by assumption) ?_ ?_); · (first | omega | (simp; done) | (simp; omega))))))) (by exact SX.out.call (by (repeat (first | (with_reducible exact Below.refl _ _) | ((with_reducible refine below_alloc ?_ ?_ _); · (first | omega | (simp; done) | (simp; omega))) | ((with_reducible refine below_setCell ?_ ?_ _); · (first | omega | (simp; done) | (simp; omega))) | (with_reducible refine Below.drew ?_) | (with_reducible refine below_drewN ?_ _) | ((with_reducible refine below_call (by assumption) ?_ ?_); · (first | omega | (simp; done) | (simp; omega)))))))).mono ?_
  rintro e w16 ⟨rfl, hb16⟩
  have hs16 := hb16.size; (try simp only [World.size_alloc, World.size_setCell] at hs16)
  obtain ⟨hk16, hf16, hz16⟩ := bcellN (n := w.heap.size + 0) (by (try simp only [World.size_drew, World.size_alloc, World.size_setCell]); omega) hb16; obtain ⟨hk16w8, hf16w8, hz16w8⟩ := bcellAt (b := w8.heap.size) (by (try simp only [World.size_drew, World.size_alloc, World.size_setCell]); omega) hb16; obtain ⟨hk16w9, hf16w9, hz16w9⟩ := bcellAt (b := w9.heap.size) (by (try simp only [World.size_drew, World.size_alloc, World.size_setCell]); omega) hb16
  go_wp2_with fail
  refine (c17 _ _ _ _ _ (by exact SX.out.call (by (repeat (first | (with_reducible exact Below.refl _ _) | ((with_reducible refine below_alloc ?_ ?_ _); · (first | omega | (simp; done) | (simp; omega))) | ((with_reducible refine below_setCell ?_ ?_ _); · (first | omega | (simp; done) | (simp; omega))) | (with_reducible refine Below.drew ?_) | (with_reducible refine below_drewN ?_ _) | ((with_reducible refine below_call (by assumption) ?_ ?_); · (first | omega | (simp; done) | (simp; omega))))))) (by exact SX.out.call (by (repeat (first | (with_reducible exact Below.refl _ _) | ((with_reducible refine below_alloc ?_ ?_ _); · (first | omega | (simp; done) | (simp; omega))) | ((with_reducible refine below_setCell ?_ ?_ _); · (first | omega | (simp; done) | (simp; omega))) | (with_reducible refine Below.drew ?_) | (with_reducible refine below_drewN ?_ _) | ((with_reducible refine below_call (by assumption) ?_ ?_); · (first | omega | (simp; done) | (simp; omega)))))))).mono ?_
  rintro e w17 ⟨rfl, hb17⟩
  have hs17 := hb17.size; (try simp only [World.size_alloc, World.size_setCell] at hs17)
  obtain ⟨hk17, hf17, hz17⟩ := bcellN (n := w.heap.size + 0) (by (try simp only [World.size_drew, World.size_alloc, World.size_setCell]); omega) hb17; obtain ⟨hk17w8, hf17w8, hz17w8⟩ := bcellAt (b := w8.heap.size) (by (try simp only [World.size_drew, World.size_alloc, World.size_setCell]); omega) hb17; obtain ⟨hk17w9, hf17w9, hz17w9⟩ := bcellAt (b := w9.heap.size) (by (try simp only [World.size_drew, World.size_alloc, World.size_setCell]); omega) hb17
  go_wp2_with fail
  go_ret
  exact ⟨rfl, by (repeat (first | (with_reducible exact Below.refl _ _) | ((with_reducible refine below_alloc ?_ ?_ _); · (first | omega | (simp; done) | (simp; omega))) | ((with_reducible refine below_setCell ?_ ?_ _); · (first | omega | (simp; done) | (simp; omega))) | (with_reducible refine Below.drew ?_) | (with_reducible refine below_drewN ?_ _) | ((with_reducible refine below_call (by assumption) ?_ ?_); · (first | omega | (simp; done) | (simp; omega)))))⟩
end Go.Proofs.Ytmnlpmfkoammhaa
