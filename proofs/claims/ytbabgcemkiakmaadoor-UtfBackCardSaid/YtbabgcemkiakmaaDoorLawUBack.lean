/- UtfBack: characters that are laid are read, and are as many as there are; what is read is laid as it was: the statement holds for every input. No condition, but that unicode/utf8's two tables hold what their text lays, which the card ties. -/
import Derived.Test.YtbabgcemkiakmaaDoorLawLaid
import Derived.Test.YtbabgcemkiakmaaDoorLawOpenI
import Derived.Test.YtbabgcemkiakmaaDoorUK
import Derived.Test.YtbabgcemkiakmaaDoorUL
namespace Go.Proofs.YtbabgcemkiakmaaDoor
open Go.RowKit Go.ChangeShapes Go.WideShapes Go.ChangeAt
set_option linter.unusedVariables false
set_option linter.unusedSimpArgs false

def inCh (n : Int) : Bool := decide (n < 55296) || decide (57343 < n)
def flt (l : List Int) : List Int := (l.map fun x => x % 1114112).filter inCh
theorem flt_len (l : List Int) : (flt l).length ≤ l.length := by
  unfold flt; have := List.length_filter_le inCh (l.map fun x => x % 1114112); rw [List.length_map] at this; exact this
theorem flt_in (l : List Int) (k : Nat) (h : k < l.length) (y : Int) (hy : l[k] % 1114112 = y) (hc : inCh y = true) : flt (l.take (k + 1)) = flt (l.take k) ++ [y] := by
  rw [List.take_succ_eq_append_getElem h]
  unfold flt
  rw [List.map_append, List.filter_append, List.map_cons, List.map_nil, hy, List.filter_cons, if_pos hc, List.filter_nil]
theorem flt_out (l : List Int) (k : Nat) (h : k < l.length) (y : Int) (hy : l[k] % 1114112 = y) (hc : ¬ inCh y = true) : flt (l.take (k + 1)) = flt (l.take k) := by
  rw [List.take_succ_eq_append_getElem h]
  unfold flt
  rw [List.map_append, List.filter_append, List.map_cons, List.map_nil, hy, List.filter_cons, if_neg hc, List.filter_nil, List.append_nil]
theorem flt_ch (l : List Int) : ∀ c ∈ flt l, isChB c = true := by
  intro c hc
  unfold flt at hc
  rw [List.mem_filter] at hc
  obtain ⟨h1, h2⟩ := hc
  obtain ⟨x, _, rfl⟩ := List.mem_map.1 h1
  simp only [inCh, Bool.or_eq_true, decide_eq_true_eq] at h2
  simp only [isChB, decide_eq_true_eq]; omega
theorem okE_bd' (l : List UInt8) : (okB l = true ∧ okE l = 0) ∨ (okB l = false ∧ okE l = 11) := by
  unfold okE; cases h : okB l <;> simp
theorem allL_len' (l : List UInt8) : (allL l).length ≤ l.length := by
  unfold allL; split
  · rw [List.length_map]; exact chs_len l
  · simp

set_option maxRecDepth 100000 in
set_option maxHeartbeats 16000000 in
theorem back_walk (v : Value) (l : List Int) (s : ByteArray) (w : World) (hT : Tabs w) (hv : IsIk .u32 w v l) (hl : l.length ≤ maxLen) (hw : ∀ n ∈ l, 0 ≤ n ∧ n ≤ 4294967295) (hs : s.size ≤ maxLen) :
    Calls Tryd.prog 5 #[v, .string s] w fun e w' => e = .returned (.bool true) ∧ Below w.heap.size w w' := by
  unfold maxLen at hl hs
  obtain ⟨i0, hi, hz0, hz1, hz2⟩ := info_parts info_int
  obtain ⟨p, cap, rfl, hp⟩ := hv
  by_cases hbig : (60 : Int) < l.length
  · clear hp
    go_enter Tryd.func5, Tryd.ntmps5
    go_wp2_with (go_at_call 7; refine (awake_any _ hT).mono ?_; rintro e w1 ⟨rfl, hb1⟩)
    go_ret
    exact ⟨rfl, hb1⟩
  · have h1 : (l.length : Int) ≤ 60 := by omega
    by_cases hbig2 : (200 : Int) < s.size
    · clear hp
      go_enter Tryd.func5, Tryd.ntmps5
      go_wp2_with (go_at_call 7; refine (awake_any _ hT).mono ?_; rintro e w1 ⟨rfl, hb1⟩)
      go_ret
      exact ⟨rfl, hb1⟩
    · have h2 : (s.size : Int) ≤ 200 := by omega
      have Hp := Lib.hid hp
      have Hw := Lib.hid hw
      clear hp hw hbig hbig2
      go_enter Tryd.func5, Tryd.ntmps5
      go_wp2
      go_loopw [5, 6] (fun u i wr => ∃ k : Nat, i = .int .i64 k ∧ k ≤ l.length ∧ wr.ownsRow w.heap.size 3 1 u (flt (l.take k)).length ((flt (l.take k)).map (Value.int .i64)) ∧ Below w.heap.size w wr) (fun _ i _ => l.length - (intOf i).toNat)
      case atStart => exact ⟨0, rfl, by omega, World.ownsRow_nil _ _ _ _, Below.refl _ _⟩
      case round =>
        obtain ⟨k, rfl, hk, hown, hB⟩ := hrel
        have hsz := hB.size
        have hfl := flt_len (l.take k)
        rw [List.length_take] at hfl
        by_cases hlt : k < l.length
        · have hlt' : (k : Int) < l.length := by omega
          obtain ⟨b, off, rfl, d⟩ := Hp.out k hlt
          have c1 : wr.cell? ⟨b, off + k, none⟩ = some (.int .u32 l[k]) := (hB.cell (p := ⟨b, off + k, none⟩) (World.block_lt_of_cell? _ _ d)).trans d
          clear d
          obtain ⟨ao, cp, hve⟩ := row_shape hown
          subst hve
          have hbd := Hw.out l[k] (List.getElem_mem _)
          obtain ⟨x, hx⟩ : ∃ x, l[k] = x := ⟨_, rfl⟩
          rw [hx] at c1 hbd
          obtain ⟨hx0, hx1⟩ := hbd
          have fin := flt_in l k hlt (x % 1114112) (by rw [hx])
          have fout := flt_out l k hlt (x % 1114112) (by rw [hx])
          have hy0 : 0 ≤ x % 1114112 := by omega
          have hy1 : x % 1114112 < 1114112 := by omega
          obtain ⟨X, hX⟩ : ∃ X, flt (l.take k) = X := ⟨_, rfl⟩
          rw [hX] at hown hfl fin fout ⊢
          have HO := Lib.hid hown
          have HF := Lib.hid (And.intro fin fout)
          clear hown fin fout hX hx
          by_cases hc : x % 1114112 < 55296
          · go_wp2_with (at_builtin; refine wpList_append_own _ rfl _ _ 25 rfl w.heap.size 3 i0 (.int .i64 0) 1 8 Tryd.underlying25 hi hz0 hz1 hz2 rfl (by decide) _ X.length (X.map (Value.int .i64)) rfl (HO.out.alloc _) ⟨wr.heap.size, 0, none⟩ 1 1 [Value.int .i64 (x % 1114112)] rfl rfl (cell_one_new _ _ _) (by simp [Value.oneCell']) (by unfold maxLen; omega) (by omega) (by simp; omega) ?_; intro v' w2 hown' hgr _)
            go_roundw
            case rel =>
              refine ⟨k + 1, by go_num, by omega, ?_, (hB.alloc (by omega) _).grown hgr (by simp; omega) (fun q hq => (HO.out.lt q hq).1)⟩
              rw [HF.out.1 (by simp only [inCh, Bool.or_eq_true, decide_eq_true_eq]; omega), List.length_append, List.map_append]
              exact hown'
            case measure => simp [intOf]; omega
          · have hc' : 55296 ≤ x % 1114112 := by omega
            by_cases hc2 : 57343 < x % 1114112
            · clear hc
              go_wp2_with (at_builtin; refine wpList_append_own _ rfl _ _ 25 rfl w.heap.size 3 i0 (.int .i64 0) 1 8 Tryd.underlying25 hi hz0 hz1 hz2 rfl (by decide) _ X.length (X.map (Value.int .i64)) rfl (HO.out.alloc _) ⟨wr.heap.size, 0, none⟩ 1 1 [Value.int .i64 (x % 1114112)] rfl rfl (cell_one_new _ _ _) (by simp [Value.oneCell']) (by unfold maxLen; omega) (by omega) (by simp; omega) ?_; intro v' w2 hown' hgr _)
              go_roundw
              case rel =>
                refine ⟨k + 1, by go_num, by omega, ?_, (hB.alloc (by omega) _).grown hgr (by simp; omega) (fun q hq => (HO.out.lt q hq).1)⟩
                rw [HF.out.1 (by simp only [inCh, Bool.or_eq_true, decide_eq_true_eq]; omega), List.length_append, List.map_append]
                exact hown'
              case measure => simp [intOf]; omega
            · have hc2' : x % 1114112 ≤ 57343 := by omega
              clear hc hc2
              go_wp2
              go_roundw
              case rel =>
                refine ⟨k + 1, by go_num, by omega, ?_, hB⟩
                rw [HF.out.2 (by simp only [inCh, Bool.or_eq_true, decide_eq_true_eq]; omega)]
                exact HO.out
              case measure => simp [intOf]; omega
        · obtain rfl : k = l.length := by omega
          rw [List.take_length] at hown hfl
          have hch := flt_ch l
          obtain ⟨cs, hcs⟩ : ∃ cs, flt l = cs := ⟨_, rfl⟩
          rw [hcs] at hown hfl hch
          have hn : cs.length ≤ 60 := by omega
          clear hfl hcs
          obtain ⟨ao, cp, hve⟩ := row_shape hown
          subst hve
          have hO : OwnI wr w.heap.size (.slice ao cs.length cp) cs := hown
          have q1 := of_any (.slice ao cs.length cp) cs wr hO.reads (by omega)
          obtain ⟨g1, g2⟩ := of_ok hch
          rw [g1, g2] at q1
          obtain ⟨k1, k2, k3⟩ := back_one cs hch
          have hel := encs_len cs
          obtain ⟨t, ht⟩ : ∃ t : ByteArray, ⟨(encs cs).toArray⟩ = t := ⟨_, rfl⟩
          have htl : t.data.toList = encs cs := by rw [← ht]
          have hts : t.size ≤ 240 := by rw [sz_list, htl]; omega
          rw [ht] at q1
          have q2 := fun W hT => all_any t W hT (by omega)
          have q3 := fun W hT => count_any t W hT (by omega)
          rw [htl, k1, k2] at q2
          rw [htl, k3] at q3
          have q4 := fun W hT => all_any s W hT (by omega)
          have q5 := fun W hT => check_any s W hT (by omega)
          have q6 := fun W hT => count_any s W hT (by omega)
          have hal := allL_len' s.data.toList
          rw [← sz_list] at hal
          have Tr : Tabs wr := hT.call hB
          have HO := Lib.hid hO
          clear hown hO g1 g2 k1 k2 k3 hel ht htl hch
          have q7 := fun v W hv => of_any v (allL s.data.toList) W hv (by omega)
          rcases okE_bd' s.data.toList with ⟨ob, oe⟩ | ⟨ob, oe⟩
          · obtain ⟨m1, m2, m3⟩ := back_two s.data.toList ob
            obtain ⟨g1, g2⟩ := of_ok m1
            have hself : (⟨s.data.toList.toArray⟩ : ByteArray) = s := by cases s; simp
            rw [g1, g2, m2, hself] at q7
            rw [← m3] at q6
            rw [oe] at q4 q5
            obtain ⟨L, hL⟩ : ∃ L, allL s.data.toList = L := ⟨_, rfl⟩
            rw [hL] at q4 q6 q7 hal
            clear m1 m2 m3 g1 g2 hself hL ob oe
            go_wp2_with fail
            refine q1.mono ?_; rintro e w1 ⟨rfl, hb1⟩
            have T1 := Tr.call hb1
            have hz1 := hb1.size
            go_wp2_with fail
            refine (q2 _ T1).mono ?_; rintro e w2 ⟨v2, rfl, hs2, hb2⟩
            have T2 := T1.call hb2
            have hz2 := hb2.size
            go_wp2_with fail
            refine (q4 _ T2).mono ?_; rintro e w3 ⟨v3, rfl, hs3, hb3⟩
            have T3 := T2.call hb3
            have hz3 := hb3.size
            obtain ⟨ao3, cp3, hv3⟩ := row_shape (show w3.ownsRow _ _ _ _ _ _ from hs3)
            subst hv3
            go_wp2_with fail
            refine (q7 _ _ hs3.reads).mono ?_; rintro e w4 ⟨rfl, hb4⟩
            have T4 := T3.call hb4
            have hz4 := hb4.size
            have r1 : IsI w4 v2 cs := (hs2.reads.call hb3).call hb4
            have r2 : IsI w4 (.slice ao cs.length cp) cs := (((HO.out.reads.call hb1).call hb2).call hb3).call hb4
            go_wp2_with fail
            refine (sameInts_any _ _ _ _ _ r1 r2 (by omega)).mono ?_; rintro e w5 ⟨rfl, hb5⟩
            rw [sameIB_self]
            have T5 := T4.call hb5
            have hz5 := hb5.size
            go_wp2_with fail
            refine (q3 _ T5).mono ?_; rintro e w6 ⟨rfl, hb6⟩
            have T6 := T5.call hb6
            have hz6 := hb6.size
            go_wp2_with fail
            refine (q5 _ T6).mono ?_; rintro e w7 ⟨rfl, hb7⟩
            have T7 := T6.call hb7
            have hz7 := hb7.size
            go_wp2_with fail
            refine (q6 _ T7).mono ?_; rintro e w8 ⟨rfl, hb8⟩
            have T8 := T7.call hb8
            have hz8 := hb8.size
            go_wp2_with fail
            refine (awake_any _ T8).mono ?_; rintro e w9 ⟨rfl, hb9⟩
            have hz9 := hb9.size
            go_wp2_with fail
            go_ret
            exact ⟨rfl, by (repeat (first | (with_reducible exact Below.refl _ _) | ((with_reducible refine below_alloc ?_ ?_ _); · (first | omega | (simp; done) | (simp; omega))) | ((with_reducible refine below_setCell ?_ ?_ _); · (first | omega | (simp; done) | (simp; omega))) | (with_reducible refine Below.drew ?_) | (with_reducible refine below_drewN ?_ _) | ((with_reducible refine below_call (by assumption) ?_ ?_); · (first | omega | (simp; done) | (simp; omega)))))⟩
          · have hal2 : allL s.data.toList = [] := by unfold allL; rw [if_neg (by simp [ob])]
            rw [hal2] at q4 q7
            rw [oe] at q4 q5
            clear ob oe hal2 q6 hal
            have e7 : ofL [] = [] ∧ ofE [] = 0 := ⟨rfl, rfl⟩
            rw [e7.1, e7.2] at q7
            go_wp2_with fail
            refine q1.mono ?_; rintro e w1 ⟨rfl, hb1⟩
            have T1 := Tr.call hb1
            have hz1 := hb1.size
            go_wp2_with fail
            refine (q2 _ T1).mono ?_; rintro e w2 ⟨v2, rfl, hs2, hb2⟩
            have T2 := T1.call hb2
            have hz2 := hb2.size
            go_wp2_with fail
            refine (q4 _ T2).mono ?_; rintro e w3 ⟨v3, rfl, hs3, hb3⟩
            have T3 := T2.call hb3
            have hz3 := hb3.size
            obtain ⟨ao3, cp3, hv3⟩ := row_shape (show w3.ownsRow _ _ _ _ _ _ from hs3)
            subst hv3
            go_wp2_with fail
            refine (q7 _ _ hs3.reads).mono ?_; rintro e w4 ⟨rfl, hb4⟩
            have T4 := T3.call hb4
            have hz4 := hb4.size
            have r1 : IsI w4 v2 cs := (hs2.reads.call hb3).call hb4
            have r2 : IsI w4 (.slice ao cs.length cp) cs := (((HO.out.reads.call hb1).call hb2).call hb3).call hb4
            go_wp2_with fail
            refine (sameInts_any _ _ _ _ _ r1 r2 (by omega)).mono ?_; rintro e w5 ⟨rfl, hb5⟩
            rw [sameIB_self]
            have T5 := T4.call hb5
            have hz5 := hb5.size
            go_wp2_with fail
            refine (q3 _ T5).mono ?_; rintro e w6 ⟨rfl, hb6⟩
            have T6 := T5.call hb6
            have hz6 := hb6.size
            go_wp2_with fail
            refine (q5 _ T6).mono ?_; rintro e w7 ⟨rfl, hb7⟩
            have T7 := T6.call hb7
            have hz7 := hb7.size
            go_wp2_with fail
            refine (awake_any _ T7).mono ?_; rintro e w9 ⟨rfl, hb9⟩
            have hz9 := hb9.size
            go_wp2_with fail
            go_ret
            exact ⟨rfl, by (repeat (first | (with_reducible exact Below.refl _ _) | ((with_reducible refine below_alloc ?_ ?_ _); · (first | omega | (simp; done) | (simp; omega))) | ((with_reducible refine below_setCell ?_ ?_ _); · (first | omega | (simp; done) | (simp; omega))) | (with_reducible refine Below.drew ?_) | (with_reducible refine below_drewN ?_ _) | ((with_reducible refine below_call (by assumption) ?_ ?_); · (first | omega | (simp; done) | (simp; omega)))))⟩

set_option maxRecDepth 100000 in
theorem back_lifted (os : Os) (started : os.Started) (H : Type) (enc : TypeId × Value → H) :
    ReturnsInHanded {} Tryd.checked os 5 .any (fun w args => (Rows.utfBackSpec.pre enc Tryd.prog Tryd.f5 Rows.utfBackRow.domain false w args ∧ laidMetH Tryd.prog laidU8 w) ∧ sizedMet enc Tryd.prog Tryd.f5 (OpenSpec.ofChange Rows.utfBackSpec) false w args)
      (Rows.utfBackSpec.post enc Tryd.prog Tryd.f5 false true false false) := by
  refine returnsInHanded_of_change_and (C := Tryd.checked) (X := fun w _ => laidMetH Tryd.prog laidU8 w) (fun _ _ _ hh h => h.of_heap hh) own started (by kernel_rfl) Tryd.func5
    (ChangeSpec.witness_shaped (enc := enc) (C := Tryd.checked) (os := os) (X := fun w _ => laidMetH Tryd.prog laidU8 w) false (World.laidAll Tryd.prog os laidU8) #[.slice none 0 0, .string ⟨#[]⟩] 8 (World.laidAll_os _ _ _)
      (World.shaped_of_ZipB (by kernel_rfl) (by kernel_rfl)) (by kernel_rfl) (by kernel_rfl) (by kernel_rfl)
      (by rw [MakeChecks.laidMetH_plain _ _ _ (by kernel_rfl)]; exact laidMet_laidAll _ (by kernel_rfl) (by kernel_rfl))) ?_
  intro W base args ds gs before hval0 hW _ _ hL _
  have hval : ∀ (j : Nat) t v, Tryd.f5.params[j]? = some t → args[j]? = some v → Value.okWide Tryd.prog W .any base t v := hval0
  have hW' := hW
  obtain ⟨p, q, hA0, hV, rfl, hfz, hnd⟩ := hW
  have hA : DataW.TrodAll enc Tryd.prog W 0 (fun _ => true) true Tryd.f5.params.toList args.toList ds p := hA0
  rw [Tryd.params5] at hA hval
  obtain ⟨v0, vs0, d0, ds0, p0, q0, hargs, rfl, rfl, h0, r0⟩ := trodAll_cons hA
  obtain ⟨v1, vs1, d1, ds1, p1, q1, rfl, rfl, rfl, h1, r1⟩ := trodAll_cons r0
  obtain ⟨rfl, rfl, rfl⟩ := trodAll_nil r1
  obtain rfl : args = #[v0, v1] := by cases args; simp_all
  obtain ⟨rfl, rfl⟩ := trodVars_none hV
  obtain ⟨l, hl, hln, hls⟩ := open_nums_k Tryd.underlying45 Tryd.underlying46 (by kernel_rfl) (hval 0 45 v0 rfl rfl) h0
  obtain ⟨s, rfl, rfl, rfl, ws⟩ := Go.ChangeMaps.open_string Tryd.underlying9 (hval 1 9 v1 rfl rfl) h1
  have hls' : ∀ n ∈ l, 0 ≤ n ∧ n ≤ 4294967295 := fun n hn => by have := hls n hn; simpa [Lit.wf, IntKind.min, IntKind.max, IntKind.signed, IntKind.bits] using this
  refine (back_walk v0 l s W (tabs_of_laid hL) hl hln hls' ws).mono fun e W' ⟨he, hb⟩ => ?_
  subst he
  exact ⟨_, rfl, law_post rfl rfl Tryd.underlying4 (by kernel_rfl) rfl hW' hb⟩
theorem back_holds : Rows.UtfBackSaid :=
  OpenClaim.holds_of_wide 5 Tryd.f5 rfl rfl rfl rfl rfl rfl rfl ⟨rfl, rfl, rfl, rfl, rfl⟩ rfl rfl rfl rfl rfl (by kernel_rfl) Tryd.func5 (by kernel_rfl)
    (of_decide_eq_true (by kernel_rfl)) (by unfold Func.isWrapper; first | (rw [if_pos (by decide +kernel)]; kernel_rfl) | (rw [if_neg (by decide +kernel)]; exact ⟨rfl, rfl⟩))
    (fun os started H enc _ => back_lifted os started H enc)
theorem back_card : Rows.UtfBackCardSaid :=
  Claim7.holds_tied_plain_at .later [] [.data, .pinned] true Rows.utfBackCard.stood.harness false back_holds (fun _ h => by cases h) (by kernel_rfl) (fun _ h => by cases h) utfBack_row_tie rfl ⟨rfl, rfl⟩ (by kernel_rfl) rfl
    (fun f fn hf hfn => by
      obtain rfl : f = 5 := Option.some.inj ((show Tryd.prog.funcNamed "callboy/callboylaw02.UtfBack" = some 5 by kernel_rfl).symm.trans hf) |>.symm
      obtain rfl : fn = Tryd.f5 := (Option.some.inj (Tryd.func5.symm.trans hfn)).symm
      exact ⟨by kernel_rfl, fun j t ht => by
        rw [Tryd.params5] at ht
        have hm : t ∈ [45, 9] := by simpa using Array.mem_of_getElem? ht
        have hall : ([45, 9].all fun u => !Tryd.prog.wantsStandIn u) = true := by kernel_rfl
        exact (show Tryd.prog.wantsStandIn t = false by simpa using List.all_eq_true.1 hall t hm)⟩)
    (by kernel_rfl)
end Go.Proofs.YtbabgcemkiakmaaDoor
