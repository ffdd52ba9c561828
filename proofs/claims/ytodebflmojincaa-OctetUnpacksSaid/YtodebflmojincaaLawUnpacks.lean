/- OctetUnpacks: texts that are packed are unpacked; bytes that are unpacked are packed as they were: the statement holds for every input. No condition. -/
import Derived.Test.YtodebflmojincaaLawOpen
import Derived.Test.YtodebflmojincaaOctL
import Derived.Test.YtodebflmojincaaMathU
namespace Go.Proofs.Ytodebflmojincaa
open Go.RowKit Go.ChangeShapes Go.WideShapes Go.ChangeAt Go.ChangeMaps
set_option linter.unusedVariables false
set_option linter.unusedSimpArgs false

theorem flat_len (l : List ByteArray) (h : ∀ t ∈ l, t.size ≤ 255) : (l.flatMap sayB).length ≤ 256 * l.length := by
  induction l with
  | nil => simp
  | cons x r ih =>
    have h1 := h x (List.mem_cons_self)
    have h2 := ih (fun t ht => h t (List.mem_cons_of_mem _ ht))
    rw [List.flatMap_cons, List.length_append, sayB_len, List.length_cons]
    omega
theorem mk_toArray (s : ByteArray) : (⟨s.data.toList.toArray⟩ : ByteArray) = s := by cases s; simp
theorem unpL_len (s : ByteArray) (m : Int) : (unpL s m).length ≤ 9223372036854775807 := by
  have h := unpN_lt s
  unfold unpL
  split
  · rw [unp_len]; omega
  · simp

set_option maxHeartbeats 2000000 in
theorem unpacks_walk (v : Value) (l : List ByteArray) (s : ByteArray) (w : World) (hv : IsS w v l) (hl : l.length ≤ maxLen) (hs : s.size ≤ maxLen) :
    Calls Try.prog 7 #[v, .string s] w fun e w' => e = .returned (.bool true) ∧ Below w.heap.size w w' := by
  unfold maxLen at hs hl
  obtain ⟨p, cap, rfl, hp⟩ := id hv
  by_cases hbig : (60 : Int) < l.length
  · clear hp hv
    go_enter Try.func7, Try.ntmps7
    go_wp2_with (go_at_call 9; refine (awake_any _).mono ?_; rintro e w1 ⟨rfl, hb1⟩)
    go_ret
    exact ⟨rfl, hb1⟩
  · by_cases hbig2 : (300 : Int) < s.size
    · have h1 : (l.length : Int) ≤ 60 := by omega
      clear hp hv
      go_enter Try.func7, Try.ntmps7
      go_wp2_with (go_at_call 9; refine (awake_any _).mono ?_; rintro e w1 ⟨rfl, hb1⟩)
      go_ret
      exact ⟨rfl, hb1⟩
    · have h1 : (l.length : Int) ≤ 60 := by omega
      have h2 : (s.size : Int) ≤ 300 := by omega
      have Hp := Lib.hid hp
      have Hv := Lib.hid hv
      have hs48 : s.size ≤ 281474976710656 := by omega
      clear hp hv hbig hbig2
      go_enter Try.func7, Try.ntmps7
      go_wp2
      go_loop [5] (fun i => ∃ k : Nat, k ≤ l.length ∧ i = .int .i64 k ∧ ∀ j (hj : j < k) (hl : j < l.length), l[j].size ≤ 60) (fun i => l.length - (intOf i).toNat)
      case atStart => exact ⟨0, by omega, rfl, fun j hj => by omega⟩
      case round =>
        obtain ⟨k, hk, rfl, hok⟩ := hrel
        by_cases hlt : k < l.length
        · have hlt' : (k : Int) < l.length := by omega
          obtain ⟨b, off, rfl, hc⟩ := Hp.out k hlt
          have HK := Lib.hid hok
          clear hok
          by_cases hq1 : (60 : Int) < l[k].size
          · go_wp2_with (go_at_call 9; refine (awake_any _).mono ?_; rintro e w1 ⟨rfl, hb1⟩)
            go_ret
            exact ⟨rfl, hb1⟩
          · have hq2 : (l[k].size : Int) ≤ 60 := by omega
            go_wp2_with fail
            go_round
            case rel => exact ⟨k + 1, by omega, by go_num, fun j hj hl' => by
              by_cases e : j = k
              · subst e; omega
              · exact HK.out j (by omega) hl'⟩
            case measure => simp [intOf]; omega
        · obtain rfl : k = l.length := by omega
          have hall : ∀ t ∈ l, t.size ≤ 60 := fun t ht => by
            obtain ⟨j, hj, rfl⟩ := List.mem_iff_getElem.1 ht
            exact hok j hj hj
          have e1 : packE l 60 = 0 := packE_ok (by omega) (fun j hj => by
            have := hok j hj hj
            unfold sayE; rw [if_neg (by omega)])
          have e2 : packL l 60 = packB l := by unfold packL; rw [if_pos e1]
          have hbl : (packB l).length ≤ 1 + 256 * l.length := by
            have := flat_len l (fun t ht => by have := hall t ht; omega)
            unfold packB; rw [List.length_cons]; omega
          have hsz : (⟨(packB l).toArray⟩ : ByteArray).size ≤ 281474976710656 := by rw [size_mk]; omega
          have hu := packed_unpacks (l := l) (m := 60) (s := ⟨(packB l).toArray⟩) (by simp) (by omega) (fun t ht => by have := hall t ht; omega)
          have E1 := Lib.hid e1
          have E2 := Lib.hid e2
          have U := Lib.hid hu
          clear hok hall e1 e2 hu
          go_wp2_with fail
          refine (pack_any _ l 60 _ Hv.out (by omega)).mono ?_; rintro e w1 ⟨v1, rfl, hs1, hb1⟩
          rw [E1.out]
          rw [E2.out] at hs1
          have q1 := hs1.str
          go_wp2_with fail
          refine (unpack_any _ 60 _ hsz).mono ?_; rintro e w2 ⟨v2, rfl, hs2, hb2⟩
          rw [U.out.1]
          rw [U.out.2] at hs2
          go_wp2_with fail
          refine (unpack_any s 255 _ hs48).mono ?_; rintro e w3 ⟨v3, rfl, hs3, hb3⟩
          have hlen : (unpL s 255).length ≤ 9223372036854775807 := unpL_len s 255
          go_wp2_with fail
          refine (pack_any _ (unpL s 255) 255 _ hs3.reads hlen).mono ?_; rintro e w4 ⟨v4, rfl, hs4, hb4⟩
          have hz1 := hb1.size
          have hz2 := hb2.size
          have hz3 := hb3.size
          have hz4 := hb4.size
          have r2 := ((hs2.call hb3).call hb4).reads
          have B4 : Below w.heap.size w w4 := by (repeat (first | (with_reducible exact Below.refl _ _) | ((with_reducible refine below_alloc ?_ ?_ _); · (first | omega | (simp; done) | (simp; omega))) | ((with_reducible refine below_setCell ?_ ?_ _); · (first | omega | (simp; done) | (simp; omega))) | (with_reducible refine Below.drew ?_) | ((with_reducible refine below_call (by assumption) ?_ ?_); · (first | omega | (simp; done) | (simp; omega)))))
          have r0 := Hv.out.call B4
          by_cases hg : unpE s 255 = 0
          · obtain ⟨p1, p2⟩ := unpacked_packs hg
            have hL : packL (unpL s 255) 255 = s.data.toList := by unfold packL; rw [if_pos p1, p2]
            rw [hL] at hs4
            rw [hg, p1]
            clear hg p1 p2 hL q1 B4
            go_wp2_with fail
            refine (sameTexts_any _ _ _ _ _ r2 r0 (by omega)).mono ?_; rintro e w5 ⟨rfl, hb5⟩
            have hz5 := hb5.size
            rw [sameB_all rfl (fun j h1 h2 => rfl)]
            have q4 := (hs4.call hb5).str
            rw [mk_toArray] at q4
            go_wp2_with fail
            refine (awake_any _).mono ?_; rintro e w6 ⟨rfl, hb6⟩
            go_wp2_with fail
            go_ret
            exact ⟨rfl, by (repeat (first | (with_reducible exact Below.refl _ _) | ((with_reducible refine below_alloc ?_ ?_ _); · (first | omega | (simp; done) | (simp; omega))) | ((with_reducible refine below_setCell ?_ ?_ _); · (first | omega | (simp; done) | (simp; omega))) | (with_reducible refine Below.drew ?_) | ((with_reducible refine below_call (by assumption) ?_ ?_); · (first | omega | (simp; done) | (simp; omega)))))⟩
          · have hg1 : (unpE s 255 != 0) = true := by simp [hg]
            clear hg q1 B4
            go_wp2_with fail
            refine (sameTexts_any _ _ _ _ _ r2 r0 (by omega)).mono ?_; rintro e w5 ⟨rfl, hb5⟩
            have hz5 := hb5.size
            rw [sameB_all rfl (fun j h1 h2 => rfl)]
            go_wp2_with fail
            refine (awake_any _).mono ?_; rintro e w6 ⟨rfl, hb6⟩
            go_wp2_with fail
            go_ret
            exact ⟨rfl, by (repeat (first | (with_reducible exact Below.refl _ _) | ((with_reducible refine below_alloc ?_ ?_ _); · (first | omega | (simp; done) | (simp; omega))) | ((with_reducible refine below_setCell ?_ ?_ _); · (first | omega | (simp; done) | (simp; omega))) | (with_reducible refine Below.drew ?_) | ((with_reducible refine below_call (by assumption) ?_ ?_); · (first | omega | (simp; done) | (simp; omega)))))⟩

set_option maxRecDepth 100000 in
theorem unpacks_lifted (os : Os) (started : os.Started) (H : Type) (enc : TypeId × Value → H) :
    ReturnsInHanded {} Try.checked os 7 .any (Rows.octetUnpacksSpec.pre6 enc Try.prog Try.f7 Rows.octetUnpacksRow.domain false) (Rows.octetUnpacksSpec.post enc Try.prog Try.f7 false true false false) := by
  refine returnsInHanded_of_change (C := Try.checked) own started (by kernel_rfl) Try.func7
    (ChangeSpec.witness6 (enc := enc) (C := Try.checked) false ⟨#[], #[.slice none 0 0, .string ⟨#[]⟩], []⟩ 8 (by kernel_rfl) (by kernel_rfl) (by kernel_rfl) (by kernel_rfl)) ?_
  intro W base args ds gs before hval0 hW hcnd _
  have hval : ∀ (j : Nat) t v, Try.f7.params[j]? = some t → args[j]? = some v → Value.okWide Try.prog W .any base t v := hval0
  have hW' := hW
  obtain ⟨p, q, hA0, hV, rfl, hfz, hnd⟩ := hW
  have hA : DataW.TrodAll enc Try.prog W 0 (fun _ => true) true Try.f7.params.toList args.toList ds p := hA0
  rw [Try.params7] at hA hval
  obtain ⟨v0, vs0, d0, ds0, p0, q0, hargs, rfl, rfl, h0, r0⟩ := trodAll_cons hA
  obtain ⟨v1, vs1, d1, ds1, p1, q1, rfl, rfl, rfl, h1, r1⟩ := trodAll_cons r0
  obtain ⟨rfl, rfl, rfl⟩ := trodAll_nil r1
  obtain rfl : args = #[v0, v1] := by cases args; simp_all
  obtain ⟨rfl, rfl⟩ := trodVars_none hV
  obtain ⟨l, hl, hln, hls⟩ := open_texts (hval 0 54 v0 rfl rfl) h0
  obtain ⟨s, rfl, rfl, rfl, ws⟩ := open_string Try.underlying9 (hval 1 9 v1 rfl rfl) h1
  refine (unpacks_walk v0 l s W hl hln ws).mono fun e W' ⟨he, hb⟩ => ?_
  subst he
  exact ⟨_, rfl, law_post rfl rfl Try.underlying4 (by kernel_rfl) rfl hW' hb⟩

theorem unpacks_holds : Rows.OctetUnpacksSaid :=
  OpenClaim.holds_of_wide 7 Try.f7 rfl rfl rfl rfl rfl rfl rfl ⟨rfl, rfl, rfl, rfl, rfl⟩ rfl rfl rfl rfl rfl (by kernel_rfl) Try.func7 (by kernel_rfl)
    (of_decide_eq_true (by kernel_rfl)) (by unfold Func.isWrapper; first | (rw [if_pos (by decide +kernel)]; kernel_rfl) | (rw [if_neg (by decide +kernel)]; exact ⟨rfl, rfl⟩))
    (fun os started H enc _ => unpacks_lifted os started H enc)
end Go.Proofs.Ytodebflmojincaa
