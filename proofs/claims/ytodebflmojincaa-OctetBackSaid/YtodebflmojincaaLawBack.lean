/- OctetBack: what was laid is read, one behind the other, and nothing is left; with a byte less it is cut off: the statement holds for every input. No condition. -/
import Derived.Test.YtodebflmojincaaLawOpen
import Derived.Test.YtodebflmojincaaOctL
import Derived.Test.YtodebflmojincaaMathB
namespace Go.Proofs.Ytodebflmojincaa
open Go.RowKit Go.ChangeShapes Go.WideShapes Go.ChangeAt Go.ChangeMaps
set_option linter.unusedVariables false
set_option linter.unusedSimpArgs false

theorem layE_six (n : Nat) (h : n < 4294967296) : layE (n : Int) 6 = 0 ∧ layL (n : Int) 6 = lay n 6 := by
  have e : layE (n : Int) 6 = 0 := by
    unfold layE
    rw [if_neg (by decide), if_neg]
    show ¬ ((n : Int) < 0 ∨ (n : Int) / 256 ^ 6 ≠ 0)
    rw [show (256 : Int) ^ 6 = 281474976710656 by decide]
    omega
  exact ⟨e, by unfold layL; rw [if_pos e]; rfl⟩
theorem layE_two (n : Int) (h0 : 0 ≤ n) (h : n < 65536) : layE n 2 = 0 ∧ layL n 2 = lay n 2 := by
  have e : layE n 2 = 0 := by
    unfold layE
    rw [if_neg (by decide), if_neg]
    show ¬ (n < 0 ∨ n / 256 ^ 2 ≠ 0)
    rw [show (256 : Int) ^ 2 = 65536 by decide]
    omega
  exact ⟨e, by unfold layL; rw [if_pos e]; rfl⟩
set_option maxRecDepth 100000 in
set_option maxHeartbeats 2000000 in
theorem back_walk (n : Nat) (s t : ByteArray) (w : World) (hn : n < 4294967296) (hs : s.size ≤ maxLen) (ht : t.size ≤ maxLen) :
    Calls Try.prog 6 #[.int .u32 (n : Int), .string s, .string t] w fun e w' => e = .returned (.bool true) ∧ Below w.heap.size w w' := by
  unfold maxLen at hs ht
  by_cases hbig : (200 : Int) < s.size
  · go_enter Try.func6, Try.ntmps6
    go_wp2_with (go_at_call 9; refine (awake_any _).mono ?_; rintro e w1 ⟨rfl, hb1⟩)
    go_ret
    exact ⟨rfl, hb1⟩
  · by_cases hbig2 : (200 : Int) < t.size
    · have h1 : (s.size : Int) ≤ 200 := by omega
      go_enter Try.func6, Try.ntmps6
      go_wp2_with (go_at_call 9; refine (awake_any _).mono ?_; rintro e w1 ⟨rfl, hb1⟩)
      go_ret
      exact ⟨rfl, hb1⟩
    · have h1 : (s.size : Int) ≤ 200 := by omega
      have h2 : (t.size : Int) ≤ 200 := by omega
      have hn1 : (n : Int) < 4294967296 := by omega
      have hn0 : (0 : Int) ≤ n := by omega
      have HN := Lib.hid hn
      have hn2 : (n : Int) ≤ 9223372036854775807 := by omega
      clear hbig hbig2 hn hn1
      go_enter Try.func6, Try.ntmps6
      go_wp2_with fail
      refine (lay_any _ _ _ (by omega) (by omega)).mono ?_; rintro e w1 ⟨v1, rfl, hs1, hb1⟩
      rw [(layE_six n HN.out).2] at hs1; rw [(layE_six n HN.out).1]
      rcases hs1.shape with ⟨_, h⟩ | ⟨g1, cap1, rfl, hg1, hg1'⟩
      · simp [lay] at h
      rw [lay_len] at hs1 ⊢
      go_wp2_with fail
      refine (say_any _ _ _).mono ?_; rintro e w2 ⟨v2, rfl, hs2, hb2⟩
      have e1 : sayE s 255 = 0 := by unfold sayE; rw [if_neg (by omega)]
      have e2 : sayL s 255 = sayB s := by unfold sayL; rw [if_pos e1]
      rw [e2] at hs2; rw [e1]
      rcases hs2.shape with ⟨_, h⟩ | ⟨g2, cap2, rfl, hg2, hg2'⟩
      · simp [sayB] at h
      rw [sayB_len] at hs2 ⊢
      clear e1 e2
      go_wp2_with fail
      have hm0 : 0 ≤ (n : Int) % 65536 := Int.emod_nonneg _ (by decide)
      have hm1 : (n : Int) % 65536 < 65536 := Int.emod_lt_of_pos _ (by decide)
      refine (lay_any _ _ _ (by omega) (by omega)).mono ?_; rintro e w3 ⟨v3, rfl, hs3, hb3⟩
      rw [(layE_two _ hm0 hm1).2] at hs3; rw [(layE_two _ hm0 hm1).1]
      rcases hs3.shape with ⟨_, h⟩ | ⟨g3, cap3, rfl, hg3, hg3'⟩
      · simp [lay] at h
      rw [lay_len] at hs3 ⊢
      have q1 := ((hs1.call hb2).call hb3).str
      have q2 := (hs2.call hb3).str
      have q3 := hs3.str
      have HM0 := Lib.hid hm0
      have HM1 := Lib.hid hm1
      clear hm0 hm1
      obtain ⟨X1, hX1⟩ : ∃ X : ByteArray, X = ⟨(lay (n : Int) 6).toArray⟩ := ⟨_, rfl⟩
      obtain ⟨X2, hX2⟩ : ∃ X : ByteArray, X = ⟨(sayB s).toArray⟩ := ⟨_, rfl⟩
      obtain ⟨X3, hX3⟩ : ∃ X : ByteArray, X = ⟨(lay ((n : Int) % 65536) 2).toArray⟩ := ⟨_, rfl⟩
      rw [← hX1] at q1
      rw [← hX2] at q2
      rw [← hX3] at q3
      have HX1 := Lib.hid hX1
      have HX2 := Lib.hid hX2
      have HX3 := Lib.hid hX3
      clear hX1 hX2 hX3
      have s1 : X1.size = 6 := by rw [HX1.out, size_mk, lay_len]
      have s2 : X2.size = s.size + 1 := by rw [HX2.out, size_mk, sayB_len]
      have s3 : X3.size = 2 := by rw [HX3.out, size_mk, lay_len]
      obtain ⟨Y2, hY2⟩ : ∃ Y : ByteArray, Y = X1 ++ X2 := ⟨_, rfl⟩
      obtain ⟨Y3, hY3⟩ : ∃ Y : ByteArray, Y = Y2 ++ X3 := ⟨_, rfl⟩
      obtain ⟨Y4, hY4⟩ : ∃ Y : ByteArray, Y = Y3 ++ t := ⟨_, rfl⟩
      have sy2 : Y2.size = 7 + s.size := by rw [hY2, ByteArray.size_append]; omega
      have sy3 : Y3.size = 9 + s.size := by rw [hY3, ByteArray.size_append]; omega
      have sy4 : Y4.size = 9 + s.size + t.size := by rw [hY4, ByteArray.size_append]; omega
      have a1 : ∀ W, (Op.stringOp .add X1 X2).run Try.prog W = .ok (.string Y2) W := fun W => by rw [hY2]; exact run_string_add W _ _ (by omega) (by omega)
      have a2 : ∀ W, (Op.stringOp .add Y2 X3).run Try.prog W = .ok (.string Y3) W := fun W => by rw [hY3]; exact run_string_add W _ _ (by omega) (by omega)
      have a3 : ∀ W, (Op.stringOp .add Y3 t).run Try.prog W = .ok (.string Y4) W := fun W => by rw [hY4]; exact run_string_add W _ _ (by omega) (by omega)
      have hall : Y4.data.toList = lay (n : Int) 6 ++ (sayB s ++ (lay ((n : Int) % 65536) 2 ++ t.data.toList)) := by
        rw [hY4, hY3, hY2, HX1.out, HX2.out, HX3.out]
        simp [ByteArray.data_append]
      obtain ⟨p1, hp1⟩ : ∃ p : Nat, p = 6 + 1 + s.size := ⟨_, rfl⟩
      obtain ⟨p2, hp2⟩ : ∃ p : Nat, p = p1 + 2 := ⟨_, rfl⟩
      obtain ⟨n1, n1d, n1s⟩ := num_at (s := Y4) (a := 0) (k := 6) (by rw [List.drop_zero]; exact hall) (lay_len _ _) (by decide) (Nat.zero_le _)
      have n2 := textV_at (m := 200) n1d (show s.size ≤ 255 by omega) (by omega)
      obtain ⟨_, _, _, n2d⟩ := text_at (m := 200) n1d (show s.size ≤ 255 by omega) (by omega)
      rw [show 0 + 6 + 1 + s.size = p1 by omega] at n2 n2d
      obtain ⟨n3, n3d, n3s⟩ := num_at n2d (lay_len _ _) (by decide) (by omega)
      rw [← hp2] at n3 n3d n3s
      have n4 := rest_at n3d n3s
      rw [lay_six n HN.out] at n1
      rw [be_lay, show ((n : Int) % 65536) % 256 ^ 2 = (n : Int) % 65536 by rw [show (256 : Int) ^ 2 = 65536 by decide]; omega] at n3
      have n5 : doneN Y4 (Y4.size : Int) 0 = 0 := by
        unfold doneN
        rw [if_neg (by simp [chk_ok (s := Y4) (a := (Y4.size : Int)) (by omega) (Int.le_refl _)]), if_neg (by omega)]
      have N1 : Hid (numV Y4 0 0 6 = .tuple #[.agg #[.string Y4, .int .i64 6, .int .i64 0], .int .i64 n]) := n1
      have N2 : Hid (textV Y4 6 0 200 = .tuple #[.agg #[.string Y4, .int .i64 (p1 : Int), .int .i64 0], .string s]) := n2
      have N3 : Hid (numV Y4 (p1 : Int) 0 2 = .tuple #[.agg #[.string Y4, .int .i64 (p2 : Int), .int .i64 0], .int .i64 ((n : Int) % 65536)]) := n3
      have N4 := Lib.hid n4
      have N5 := Lib.hid n5
      have hY48 : Y4.size ≤ 281474976710656 := by omega
      have hYm : Y4.size ≤ maxLen := by unfold maxLen; omega
      have hcap := hs2.cap
      rw [sayB_len] at hcap
      clear n1 n2 n3 n4 n5 n1d n1s n2d n3d n3s hall hY2 hY3 hY4 s1 s2 s3 sy2 sy3 sy4 hp1 hp2
      go_wp2_with fail
      refine (open_any _ _).mono ?_; rintro e w4 ⟨rfl, hb4⟩
      clear q1 q2 q3 a1 a2 a3
      go_wp2_with fail
      refine (num_any _ _ _ _ _ hYm).mono ?_; rintro e w5 ⟨rfl, hb5⟩
      rw [N1.out]
      have R5 : Row3 (w5.alloc (.cells #[.string Y4, .int .i64 6, .int .i64 0] 27)) w5.heap.size (.string Y4) (.int .i64 6) (.int .i64 0) := by simp [Row3, go_sem]
      go_wp2_with fail
      refine (text_any _ _ _ _ _ hY48).mono ?_; rintro e w6 ⟨rfl, hb6⟩
      rw [N2.out]
      have R6 := R5.call hb6 R5.lt
      obtain ⟨⟨c0, c1, c2⟩, f0, f1, f2⟩ := id R6
      have R6' := ((R6.set0 (.string Y4)).set1 (.int .i64 (p1 : Int))).set2 (.int .i64 0)
      go_wp2_with fail
      refine (num_any _ _ _ _ _ hYm).mono ?_; rintro e w7 ⟨rfl, hb7⟩
      rw [N3.out]
      have R7 := R6'.call hb7 R6'.lt
      clear c0 c1 c2 f0 f1 f2
      obtain ⟨⟨c0, c1, c2⟩, f0, f1, f2⟩ := id R7
      have R7' := ((R7.set0 (.string Y4)).set1 (.int .i64 (p2 : Int))).set2 (.int .i64 0)
      go_wp2_with fail
      refine (rest_any _ _ _ _ hY48).mono ?_; rintro e w8 ⟨rfl, hb8⟩
      rw [N4.out]
      have R8 := R7'.call hb8 R7'.lt
      clear c0 c1 c2 f0 f1 f2
      obtain ⟨⟨c0, c1, c2⟩, f0, f1, f2⟩ := id R8
      have R8' := ((R8.set0 (.string Y4)).set1 (.int .i64 (Y4.size : Int))).set2 (.int .i64 0)
      have z1 := hb1.size
      have z2 := hb2.size
      have z3 := hb3.size
      have z4 := hb4.size
      have z5 := hb5.size
      have z6 : w5.heap.size ≤ w6.heap.size := (by have := hb6.size; simp only [World.size_alloc] at this; omega)
      have z7 : w6.heap.size ≤ w7.heap.size := (by have := hb7.size; simp only [World.size_setCell] at this; omega)
      have z8 : w7.heap.size ≤ w8.heap.size := (by have := hb8.size; simp only [World.size_setCell] at this; omega)
      have B8 : Below w2.heap.size w2 (((w8.setCell ⟨w5.heap.size, 0, none⟩ (.string Y4)).setCell ⟨w5.heap.size, 1, none⟩ (.int .i64 (Y4.size : Int))).setCell ⟨w5.heap.size, 2, none⟩ (.int .i64 0)) := by (repeat (first | (with_reducible exact Below.refl _ _) | ((with_reducible refine below_alloc ?_ ?_ _); · (first | omega | (simp; done) | (simp; omega))) | ((with_reducible refine below_setCell ?_ ?_ _); · (first | omega | (simp; done) | (simp; omega))) | (with_reducible refine Below.drew ?_) | ((with_reducible refine below_call (by assumption) ?_ ?_); · (first | omega | (simp; done) | (simp; omega)))))
      have q5 := ((hs2.call B8).front (k := s.size) (by rw [sayB_len]; omega)).str
      have hcap1 : (s.size : Int) ≤ cap2 := by omega
      obtain ⟨Z, hZ⟩ : ∃ Z : ByteArray, Z = ⟨((sayB s).take s.size).toArray⟩ := ⟨_, rfl⟩
      rw [← hZ] at q5
      have HZ := Lib.hid hZ
      have hZs : Z.size ≤ 281474976710656 := by rw [hZ, size_mk, List.length_take]; omega
      clear hZ
      go_wp2_with fail
      refine (open_any _ _).mono ?_; rintro e w9 ⟨rfl, hb9⟩
      have R9 := R8'.call hb9 R8'.lt
      have z9 : w8.heap.size ≤ w9.heap.size := (by have := hb9.size; simp only [World.size_setCell] at this; omega)
      clear c0 c1 c2 f0 f1 f2 q5
      go_wp2_with fail
      refine (text_any _ _ _ _ _ hZs).mono ?_; rintro e w10 ⟨rfl, hb10⟩
      have N6 : textB Z 0 0 200 = 3 := by rw [HZ.out]; exact cut_off (by omega)
      unfold textV
      rw [N6]
      have R10 := R9.call hb10 R9.lt
      have z10 := hb10.size
      have T10 : Row3 (w10.alloc (.cells #[.string Z, .int .i64 (textA Z 0 0 200), .int .i64 3] 27)) w10.heap.size (.string Z) (.int .i64 (textA Z 0 0 200)) (.int .i64 3) := by simp [Row3, go_sem]
      have R10' := R10.alloc R10.lt (.cells #[.string Z, .int .i64 (textA Z 0 0 200), .int .i64 3] 27)
      have hl10 := R10.lt
      obtain ⟨⟨c0, c1, c2⟩, f0, f1, f2⟩ := id R10
      clear N6
      go_wp2_with fail
      refine (done_any _ _ _ _ hYm).mono ?_; rintro e w11 ⟨rfl, hb11⟩
      rw [N5.out]
      have R11 := R10'.call hb11 R10'.lt
      have T11 := T10.call hb11 T10.lt
      have z11 : w10.heap.size ≤ w11.heap.size := (by have := hb11.size; simp only [World.size_alloc] at this; omega)
      clear c0 c1 c2 f0 f1 f2
      obtain ⟨⟨c0, c1, c2⟩, f0, f1, f2⟩ := id R11
      obtain ⟨⟨d0, d1, d2⟩, g0, g1, g2⟩ := id T11
      go_wp2_with fail
      refine (awake_any _).mono ?_; rintro e w12 ⟨rfl, hb12⟩
      go_wp2_with fail
      go_ret
      clear B8
      exact ⟨rfl, by (repeat (first | (with_reducible exact Below.refl _ _) | ((with_reducible refine below_alloc ?_ ?_ _); · (first | omega | (simp; done) | (simp; omega))) | ((with_reducible refine below_setCell ?_ ?_ _); · (first | omega | (simp; done) | (simp; omega))) | (with_reducible refine Below.drew ?_) | ((with_reducible refine below_call (by assumption) ?_ ?_); · (first | omega | (simp; done) | (simp; omega)))))⟩

set_option maxRecDepth 100000 in
theorem back_lifted (os : Os) (started : os.Started) (H : Type) (enc : TypeId × Value → H) :
    ReturnsInHanded {} Try.checked os 6 .any (Rows.octetBackSpec.pre6 enc Try.prog Try.f6 Rows.octetBackRow.domain false) (Rows.octetBackSpec.post enc Try.prog Try.f6 false true false false) := by
  refine returnsInHanded_of_change (C := Try.checked) own started (by kernel_rfl) Try.func6
    (ChangeSpec.witness6 (enc := enc) (C := Try.checked) false ⟨#[], #[.int .u32 0, .string ⟨#[]⟩, .string ⟨#[]⟩], []⟩ 8 (by kernel_rfl) (by kernel_rfl) (by kernel_rfl) (by kernel_rfl)) ?_
  intro W base args ds gs before hval0 hW hcnd _
  have hval : ∀ (j : Nat) t v, Try.f6.params[j]? = some t → args[j]? = some v → Value.okWide Try.prog W .any base t v := hval0
  have hW' := hW
  obtain ⟨p, q, hA0, hV, rfl, hfz, hnd⟩ := hW
  have hA : DataW.TrodAll enc Try.prog W 0 (fun _ => true) true Try.f6.params.toList args.toList ds p := hA0
  rw [Try.params6] at hA hval
  obtain ⟨v0, vs0, d0, ds0, p0, q0, hargs, rfl, rfl, h0, r0⟩ := trodAll_cons hA
  obtain ⟨v1, vs1, d1, ds1, p1, q1, rfl, rfl, rfl, h1, r1⟩ := trodAll_cons r0
  obtain ⟨v2, vs2, d2, ds2, p2, q2, rfl, rfl, rfl, h2, r2⟩ := trodAll_cons r1
  obtain ⟨rfl, rfl, rfl⟩ := trodAll_nil r2
  obtain rfl : args = #[v0, v1, v2] := by cases args; simp_all
  obtain ⟨rfl, rfl⟩ := trodVars_none hV
  obtain ⟨n, rfl, rfl, rfl, wn⟩ := open_int Try.underlying63 (hval 0 63 v0 rfl rfl) h0
  obtain ⟨s, rfl, rfl, rfl, ws⟩ := open_string Try.underlying9 (hval 1 9 v1 rfl rfl) h1
  obtain ⟨t, rfl, rfl, rfl, wt⟩ := open_string Try.underlying9 (hval 2 9 v2 rfl rfl) h2
  have hx : 0 ≤ n ∧ n ≤ 4294967295 := by simpa [Lit.wf, IntKind.min, IntKind.max, IntKind.signed, IntKind.bits] using wn
  obtain ⟨n, rfl⟩ : ∃ m : Nat, n = m := ⟨n.toNat, by omega⟩
  refine (back_walk n s t W (by omega) ws wt).mono fun e W' ⟨he, hb⟩ => ?_
  subst he
  exact ⟨_, rfl, law_post rfl rfl Try.underlying4 (by kernel_rfl) rfl hW' hb⟩

theorem back_holds : Rows.OctetBackSaid :=
  OpenClaim.holds_of_wide 6 Try.f6 rfl rfl rfl rfl rfl rfl rfl ⟨rfl, rfl, rfl, rfl, rfl⟩ rfl rfl rfl rfl rfl (by kernel_rfl) Try.func6 (by kernel_rfl)
    (of_decide_eq_true (by kernel_rfl)) (by unfold Func.isWrapper; first | (rw [if_pos (by decide +kernel)]; kernel_rfl) | (rw [if_neg (by decide +kernel)]; exact ⟨rfl, rfl⟩))
    (fun os started H enc _ => back_lifted os started H enc)
end Go.Proofs.Ytodebflmojincaa
