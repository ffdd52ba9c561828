/- UtfReads: whatever is told of a text (its first character, all of them, how many there are, whether it has none but these, and no controls, its beginnings, itself in small letters) is as the document says: the statement holds for every input. No condition, but that unicode/utf8's two tables hold what their text lays, which the card ties. -/
import Derived.Test.YtbabgcemkiakmaaDoorLawLaid
import Derived.Test.YtbabgcemkiakmaaDoorUK
namespace Go.Proofs.YtbabgcemkiakmaaDoor
open Go.RowKit Go.ChangeShapes Go.WideShapes Go.ChangeAt
set_option linter.unusedVariables false
set_option linter.unusedSimpArgs false

theorem okE_bd (l : List UInt8) : 0 ≤ okE l ∧ okE l ≤ 11 := by unfold okE; split <;> omega
theorem allL_len (l : List UInt8) : (allL l).length ≤ l.length := by
  unfold allL; split
  · rw [List.length_map]; exact chs_len l
  · simp

set_option maxRecDepth 100000 in
set_option maxHeartbeats 8000000 in
theorem reads_walk (s : ByteArray) (m : Int) (w : World) (hT : Tabs w) (hs : s.size ≤ maxLen) (hm1 : -9223372036854775808 ≤ m) (hm2 : m ≤ 9223372036854775807) :
    Calls Tryd.prog 3 #[.string s, .int .i64 m] w fun e w' => e = .returned (.bool true) ∧ Below w.heap.size w w' := by
  unfold maxLen at hs
  by_cases hbig : (200 : Int) < s.size
  · go_enter Tryd.func3, Tryd.ntmps3
    go_wp2_with (go_at_call 7; refine (awake_any _ hT).mono ?_; rintro e w1 ⟨rfl, hb1⟩)
    go_ret
    exact ⟨rfl, hb1⟩
  · have hsm : (s.size : Int) ≤ 200 := by omega
    have hs2 : s.size ≤ 1099511627776 := by omega
    have hs3 : s.size ≤ 281474976710656 := by omega
    have hlen : (allL s.data.toList).length ≤ 9223372036854775807 := by have := allL_len s.data.toList; rw [← sz_list] at this; omega
    obtain ⟨hE0, hE1⟩ := okE_bd s.data.toList
    have c1 := fun W hT => next_any s W hT
    have c2 := fun W => refnext_any s W (by unfold maxLen; omega)
    have c3 := fun W hT => all_any s W hT hs2
    have c4 := fun W => refall_any s W hs2
    have c5 := fun W hT => count_any s W hT hs3
    have c6 := fun W => refcount_any s W hs2
    have c7 := fun W hT => check_any s W hT hs3
    have c8 := fun W => refcheck_any s W hs2
    have c9 := fun W hT => cut_any s m W hT hs2
    have c10 := fun W => refcut_any s m W hs2 hm1 hm2
    have c11 := fun W => low_any s W hs2
    have c12 := fun W => reflow_any s W hs2
    have c13 := fun W hT => plain_any s W hT hs3
    have c14 := fun W => refplain_any s W hs2
    generalize nxtC s.data.toList = C at *
    generalize nxtK s.data.toList = K at *
    generalize okE s.data.toList = E at *
    generalize allL s.data.toList = L at *
    generalize ((chs s.data.toList).length : Int) = N at *
    generalize s.extract 0 (cutN (chs s.data.toList) m 0) = X at *
    generalize (⟨(lowL s.data.toList).toArray⟩ : ByteArray) = Y at *
    generalize plB s.data.toList = P at *
    clear hbig hs2 hs3 hs
    go_enter Tryd.func3, Tryd.ntmps3
    go_wp2_with fail
    refine (c1 _ hT).mono ?_; rintro e w1 ⟨rfl, hb1⟩
    have T1 := hT.call hb1
    have hz1 := hb1.size
    go_wp2_with fail
    refine (c2 _).mono ?_; rintro e w2 ⟨rfl, hb2⟩
    have T2 := T1.call hb2
    have hz2 := hb2.size
    go_wp2_with fail
    refine (c3 _ T2).mono ?_; rintro e w3 ⟨v1, rfl, hs1, hb3⟩
    have T3 := T2.call hb3
    have hz3 := hb3.size
    go_wp2_with fail
    refine (c4 _).mono ?_; rintro e w4 ⟨v2, rfl, hs2, hb4⟩
    have T4 := T3.call hb4
    have hz4 := hb4.size
    have r1 : IsI w4 v1 L := hs1.reads.call hb4
    have r2 : IsI w4 v2 L := hs2.reads
    go_wp2_with fail
    refine (sameInts_any _ _ _ _ _ r1 r2 hlen).mono ?_; rintro e w5 ⟨rfl, hb5⟩
    rw [sameIB_self]
    have T5 := T4.call hb5
    have hz5 := hb5.size
    go_wp2_with fail
    refine (c5 _ T5).mono ?_; rintro e w6 ⟨rfl, hb6⟩
    have T6 := T5.call hb6
    have hz6 := hb6.size
    go_wp2_with fail
    refine (c6 _).mono ?_; rintro e w7 ⟨rfl, hb7⟩
    have T7 := T6.call hb7
    have hz7 := hb7.size
    go_wp2_with fail
    refine (c7 _ T7).mono ?_; rintro e w8 ⟨rfl, hb8⟩
    have T8 := T7.call hb8
    have hz8 := hb8.size
    go_wp2_with fail
    refine (c8 _).mono ?_; rintro e w9 ⟨rfl, hb9⟩
    have T9 := T8.call hb9
    have hz9 := hb9.size
    go_wp2_with fail
    refine (c9 _ T9).mono ?_; rintro e w10 ⟨rfl, hb10⟩
    have T10 := T9.call hb10
    have hz10 := hb10.size
    go_wp2_with fail
    refine (c10 _).mono ?_; rintro e w11 ⟨rfl, hb11⟩
    have T11 := T10.call hb11
    have hz11 := hb11.size
    go_wp2_with fail
    refine (c11 _).mono ?_; rintro e w12 ⟨rfl, hb12⟩
    have T12 := T11.call hb12
    have hz12 := hb12.size
    go_wp2_with fail
    refine (c12 _).mono ?_; rintro e w13 ⟨rfl, hb13⟩
    have T13 := T12.call hb13
    have hz13 := hb13.size
    go_wp2_with fail
    refine (c13 _ T13).mono ?_; rintro e w14 ⟨rfl, hb14⟩
    have T14 := T13.call hb14
    have hz14 := hb14.size
    go_wp2_with fail
    refine (c14 _).mono ?_; rintro e w15 ⟨rfl, hb15⟩
    have T15 := T14.call hb15
    have hz15 := hb15.size
    go_wp2_with fail
    refine (awake_any _ T15).mono ?_; rintro e w16 ⟨rfl, hb16⟩
    have hz16 := hb16.size
    go_wp2_with fail
    go_ret
    exact ⟨rfl, by (repeat (first | (with_reducible exact Below.refl _ _) | ((with_reducible refine below_alloc ?_ ?_ _); · (first | omega | (simp; done) | (simp; omega))) | ((with_reducible refine below_setCell ?_ ?_ _); · (first | omega | (simp; done) | (simp; omega))) | (with_reducible refine Below.drew ?_) | (with_reducible refine below_drewN ?_ _) | ((with_reducible refine below_call (by assumption) ?_ ?_); · (first | omega | (simp; done) | (simp; omega)))))⟩

set_option maxRecDepth 100000 in
theorem reads_lifted (os : Os) (started : os.Started) (H : Type) (enc : TypeId × Value → H) :
    ReturnsInHanded {} Tryd.checked os 3 .any (fun w args => (Rows.utfReadsSpec.pre enc Tryd.prog Tryd.f3 Rows.utfReadsRow.domain false w args ∧ laidMetH Tryd.prog laidU8 w) ∧ sizedMet enc Tryd.prog Tryd.f3 (OpenSpec.ofChange Rows.utfReadsSpec) false w args)
      (Rows.utfReadsSpec.post enc Tryd.prog Tryd.f3 false true false false) := by
  refine returnsInHanded_of_change_and (C := Tryd.checked) (X := fun w _ => laidMetH Tryd.prog laidU8 w) (fun _ _ _ hh h => h.of_heap hh) own started (by kernel_rfl) Tryd.func3
    (ChangeSpec.witness_shaped (enc := enc) (C := Tryd.checked) (os := os) (X := fun w _ => laidMetH Tryd.prog laidU8 w) false (World.laidAll Tryd.prog os laidU8) #[.string ⟨#[]⟩, .int .i64 0] 8 (World.laidAll_os _ _ _)
      (World.shaped_of_ZipB (by kernel_rfl) (by kernel_rfl)) (by kernel_rfl) (by kernel_rfl) (by kernel_rfl)
      (by rw [MakeChecks.laidMetH_plain _ _ _ (by kernel_rfl)]; exact laidMet_laidAll _ (by kernel_rfl) (by kernel_rfl))) ?_
  intro W base args ds gs before hval0 hW _ _ hL _
  have hval : ∀ (j : Nat) t v, Tryd.f3.params[j]? = some t → args[j]? = some v → Value.okWide Tryd.prog W .any base t v := hval0
  have hW' := hW
  obtain ⟨p, q, hA0, hV, rfl, hfz, hnd⟩ := hW
  have hA : DataW.TrodAll enc Tryd.prog W 0 (fun _ => true) true Tryd.f3.params.toList args.toList ds p := hA0
  rw [Tryd.params3] at hA hval
  obtain ⟨v0, vs0, d0, ds0, p0, q0, hargs, rfl, rfl, h0, r0⟩ := trodAll_cons hA
  obtain ⟨v1, vs1, d1, ds1, p1, q1, rfl, rfl, rfl, h1, r1⟩ := trodAll_cons r0
  obtain ⟨rfl, rfl, rfl⟩ := trodAll_nil r1
  obtain rfl : args = #[v0, v1] := by cases args; simp_all
  obtain ⟨rfl, rfl⟩ := trodVars_none hV
  obtain ⟨s, rfl, rfl, rfl, ws⟩ := Go.ChangeMaps.open_string Tryd.underlying9 (hval 0 9 v0 rfl rfl) h0
  obtain ⟨m, rfl, rfl, rfl, wm⟩ := open_int Tryd.underlying3 (hval 1 3 v1 rfl rfl) h1
  have hm : -9223372036854775808 ≤ m ∧ m ≤ 9223372036854775807 := by simpa [Lit.wf, IntKind.min, IntKind.max, IntKind.signed, IntKind.bits] using wm
  refine (reads_walk s m W (tabs_of_laid hL) ws hm.1 hm.2).mono fun e W' ⟨he, hb⟩ => ?_
  subst he
  exact ⟨_, rfl, law_post rfl rfl Tryd.underlying4 (by kernel_rfl) rfl hW' hb⟩

theorem reads_holds : Rows.UtfReadsSaid :=
  OpenClaim.holds_of_wide 3 Tryd.f3 rfl rfl rfl rfl rfl rfl rfl ⟨rfl, rfl, rfl, rfl, rfl⟩ rfl rfl rfl rfl rfl (by kernel_rfl) Tryd.func3 (by kernel_rfl)
    (of_decide_eq_true (by kernel_rfl)) (by unfold Func.isWrapper; first | (rw [if_pos (by decide +kernel)]; kernel_rfl) | (rw [if_neg (by decide +kernel)]; exact ⟨rfl, rfl⟩))
    (fun os started H enc _ => reads_lifted os started H enc)
theorem reads_card : Rows.UtfReadsCardSaid :=
  Claim7.holds_tied_plain_at .later [] [.data, .pinned] true Rows.utfReadsCard.stood.harness false reads_holds (fun _ h => by cases h) (by kernel_rfl) (fun _ h => by cases h) utfReads_row_tie rfl ⟨rfl, rfl⟩ (by kernel_rfl) rfl
    (fun f fn hf hfn => by
      obtain rfl : f = 3 := Option.some.inj ((show Tryd.prog.funcNamed "callboy/callboylaw02.UtfReads" = some 3 by kernel_rfl).symm.trans hf) |>.symm
      obtain rfl : fn = Tryd.f3 := (Option.some.inj (Tryd.func3.symm.trans hfn)).symm
      exact ⟨by kernel_rfl, fun j t ht => by
        rw [Tryd.params3] at ht
        have hm : t ∈ [9, 3] := by simpa using Array.mem_of_getElem? ht
        have hall : ([9, 3].all fun u => !Tryd.prog.wantsStandIn u) = true := by kernel_rfl
        exact (show Tryd.prog.wantsStandIn t = false by simpa using List.all_eq_true.1 hall t hm)⟩)
    (by kernel_rfl)
end Go.Proofs.YtbabgcemkiakmaaDoor
