/- OctetPacks: any texts are packed, and any bytes unpacked, as the document says: the statement holds for every input. No condition. -/
import Derived.Test.YtodebflmojincaaLawOpen
import Derived.Test.YtodebflmojincaaOctL
namespace Go.Proofs.Ytodebflmojincaa
open Go.RowKit Go.ChangeShapes Go.WideShapes Go.ChangeAt Go.ChangeMaps
set_option linter.unusedVariables false
set_option linter.unusedSimpArgs false

theorem unpL_len (s : ByteArray) (m : Int) : (unpL s m).length ≤ 9223372036854775807 := by
  have h := unpN_lt s
  unfold unpL
  split
  · rw [unp_len]; omega
  · simp
set_option maxHeartbeats 2000000 in
theorem packs_walk (v : Value) (l : List ByteArray) (s : ByteArray) (m : Int) (w : World) (hv : IsS w v l) (hl : l.length ≤ maxLen) (hsl : ∀ x ∈ l, x.size ≤ maxLen) (hs : s.size ≤ maxLen) :
    Calls Try.prog 5 #[v, .string s, .int .i64 m] w fun e w' => e = .returned (.bool true) ∧ Below w.heap.size w w' := by
  have hlm := hl
  have hsm := hs
  unfold maxLen at hs hl
  obtain ⟨p, cap, rfl, hp⟩ := id hv
  by_cases hbig : (300 : Int) < l.length
  · clear hp hv
    go_enter Try.func5, Try.ntmps5
    go_wp2_with (go_at_call 9; refine (awake_any _).mono ?_; rintro e w1 ⟨rfl, hb1⟩)
    go_ret
    exact ⟨rfl, hb1⟩
  · by_cases hbig2 : (300 : Int) < s.size
    · have h1 : (l.length : Int) ≤ 300 := by omega
      clear hp hv
      go_enter Try.func5, Try.ntmps5
      go_wp2_with (go_at_call 9; refine (awake_any _).mono ?_; rintro e w1 ⟨rfl, hb1⟩)
      go_ret
      exact ⟨rfl, hb1⟩
    · have h1 : (l.length : Int) ≤ 300 := by omega
      have h2 : (s.size : Int) ≤ 300 := by omega
      have Hp := Lib.hid hp
      have Hv := Lib.hid hv
      have hs48 : s.size ≤ 281474976710656 := by omega
      clear hp hv hbig hbig2
      go_enter Try.func5, Try.ntmps5
      go_wp2
      go_loop [7, 8] (fun u i => ∃ k : Nat, ∃ n : Int, k ≤ l.length ∧ i = .int .i64 k ∧ u = .int .i64 n ∧ 0 ≤ n ∧ n ≤ 600) (fun _ i => l.length - (intOf i).toNat)
      case atStart => exact ⟨0, 0, by omega, rfl, rfl, by omega, by omega⟩
      case round =>
        obtain ⟨k, n, hk, rfl, rfl, hn0, hn1⟩ := hrel
        by_cases hlt : k < l.length
        · have hlt' : (k : Int) < l.length := by omega
          obtain ⟨b, off, rfl, hc⟩ := Hp.out k hlt
          by_cases hq1 : (300 : Int) < l[k].size
          · go_wp2_with (go_at_call 9; refine (awake_any _).mono ?_; rintro e w1 ⟨rfl, hb1⟩)
            go_ret
            exact ⟨rfl, hb1⟩
          · by_cases hq2 : 300 < n
            · have hq1' : (l[k].size : Int) ≤ 300 := by omega
              go_wp2_with (go_at_call 9; refine (awake_any _).mono ?_; rintro e w1 ⟨rfl, hb1⟩)
              go_ret
              exact ⟨rfl, hb1⟩
            · have hq1' : (l[k].size : Int) ≤ 300 := by omega
              have hq2' : n ≤ 300 := by omega
              go_wp2_with fail
              go_round
              case rel => exact ⟨k + 1, n + l[k].size, by omega, by go_num, rfl, by omega, by omega⟩
              case measure => simp [intOf]; omega
        · obtain rfl : k = l.length := by omega
          go_wp2_with fail
          refine (pack_any _ l m _ Hv.out (by omega)).mono ?_; rintro e w1 ⟨v1, rfl, hs1, hb1⟩
          go_wp2_with fail
          refine (rpack_any _ l m _ (Hv.out.call hb1) (by omega)).mono ?_; rintro e w2 ⟨v2, rfl, hs2, hb2⟩
          go_wp2_with fail
          refine (unpack_any s m _ hs48).mono ?_; rintro e w3 ⟨v3, rfl, hs3, hb3⟩
          go_wp2_with fail
          refine (runpack_any s m _ hs48).mono ?_; rintro e w4 ⟨v4, rfl, hs4, hb4⟩
          have hz1 := hb1.size
          have hz2 := hb2.size
          have hz3 := hb3.size
          have hz4 := hb4.size
          have q1 := (((hs1.call hb2).call hb3).call hb4).str
          have q2 := ((hs2.call hb3).call hb4).str
          have r3 := (hs3.call hb4).reads
          have r4 := hs4.reads
          have hlen : (unpL s m).length ≤ 9223372036854775807 := unpL_len s m
          go_wp2_with fail
          refine (sameTexts_any _ _ _ _ _ r3 r4 hlen).mono ?_; rintro e w5 ⟨rfl, hb5⟩
          have hz5 := hb5.size
          rw [sameB_all rfl (fun j h1 h2 => rfl)]
          go_wp2_with fail
          refine (awake_any _).mono ?_; rintro e w6 ⟨rfl, hb6⟩
          go_wp2_with fail
          go_ret
          exact ⟨rfl, by (repeat (first | (with_reducible exact Below.refl _ _) | ((with_reducible refine below_alloc ?_ ?_ _); · (first | omega | (simp; done) | (simp; omega))) | ((with_reducible refine below_setCell ?_ ?_ _); · (first | omega | (simp; done) | (simp; omega))) | (with_reducible refine Below.drew ?_) | ((with_reducible refine below_call (by assumption) ?_ ?_); · (first | omega | (simp; done) | (simp; omega)))))⟩

set_option maxRecDepth 100000 in
theorem packs_lifted (os : Os) (started : os.Started) (H : Type) (enc : TypeId × Value → H) :
    ReturnsInHanded {} Try.checked os 5 .any (Rows.octetPacksSpec.pre6 enc Try.prog Try.f5 Rows.octetPacksRow.domain false) (Rows.octetPacksSpec.post enc Try.prog Try.f5 false true false false) := by
  refine returnsInHanded_of_change (C := Try.checked) own started (by kernel_rfl) Try.func5
    (ChangeSpec.witness6 (enc := enc) (C := Try.checked) false ⟨#[], #[.slice none 0 0, .string ⟨#[]⟩, .int .i64 0], []⟩ 8 (by kernel_rfl) (by kernel_rfl) (by kernel_rfl) (by kernel_rfl)) ?_
  intro W base args ds gs before hval0 hW hcnd _
  have hval : ∀ (j : Nat) t v, Try.f5.params[j]? = some t → args[j]? = some v → Value.okWide Try.prog W .any base t v := hval0
  have hW' := hW
  obtain ⟨p, q, hA0, hV, rfl, hfz, hnd⟩ := hW
  have hA : DataW.TrodAll enc Try.prog W 0 (fun _ => true) true Try.f5.params.toList args.toList ds p := hA0
  rw [Try.params5] at hA hval
  obtain ⟨v0, vs0, d0, ds0, p0, q0, hargs, rfl, rfl, h0, r0⟩ := trodAll_cons hA
  obtain ⟨v1, vs1, d1, ds1, p1, q1, rfl, rfl, rfl, h1, r1⟩ := trodAll_cons r0
  obtain ⟨v2, vs2, d2, ds2, p2, q2, rfl, rfl, rfl, h2, r2⟩ := trodAll_cons r1
  obtain ⟨rfl, rfl, rfl⟩ := trodAll_nil r2
  obtain rfl : args = #[v0, v1, v2] := by cases args; simp_all
  obtain ⟨rfl, rfl⟩ := trodVars_none hV
  obtain ⟨l, hl, hln, hls⟩ := open_texts (hval 0 54 v0 rfl rfl) h0
  obtain ⟨s, rfl, rfl, rfl, ws⟩ := open_string Try.underlying9 (hval 1 9 v1 rfl rfl) h1
  obtain ⟨m, rfl, rfl, rfl, wm⟩ := open_int Try.underlying3 (hval 2 3 v2 rfl rfl) h2
  refine (packs_walk v0 l s m W hl hln hls ws).mono fun e W' ⟨he, hb⟩ => ?_
  subst he
  exact ⟨_, rfl, law_post rfl rfl Try.underlying4 (by kernel_rfl) rfl hW' hb⟩

theorem packs_holds : Rows.OctetPacksSaid :=
  OpenClaim.holds_of_wide 5 Try.f5 rfl rfl rfl rfl rfl rfl rfl ⟨rfl, rfl, rfl, rfl, rfl⟩ rfl rfl rfl rfl rfl (by kernel_rfl) Try.func5 (by kernel_rfl)
    (of_decide_eq_true (by kernel_rfl)) (by unfold Func.isWrapper; first | (rw [if_pos (by decide +kernel)]; kernel_rfl) | (rw [if_neg (by decide +kernel)]; exact ⟨rfl, rfl⟩))
    (fun os started H enc _ => packs_lifted os started H enc)
end Go.Proofs.Ytodebflmojincaa
