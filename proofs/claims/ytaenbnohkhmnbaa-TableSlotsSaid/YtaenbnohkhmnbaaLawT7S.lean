/- TableSlots: each key stands in its own slot, or behind it, without a gap between; each stands once: the statement holds for every input. No condition. -/
import Derived.Test.YtaenbnohkhmnbaaLawKit
import Derived.Test.YtaenbnohkhmnbaaLawOpen7
import Derived.Test.YtaenbnohkhmnbaaT7Y
namespace Go.Proofs.Ytaenbnohkhmnbaa
open Go.RowKit Go.ChangeShapes Go.WideShapes Go.ChangeAt
set_option linter.unusedVariables false
set_option linter.unusedSimpArgs false

/-- no key is the text of no bytes -/
def NoE (N : Nat) (c : Nat → Sl) : Prop := ∀ k v, Has N c k v → k ≠ ⟨#[]⟩
theorem isE_true {s : ByteArray} (h : s = ⟨#[]⟩) : s.toList.isEmpty = true := by subst h; rw [ByteArray.toList_eq]; rfl
theorem isE_false {s : ByteArray} (h : s ≠ ⟨#[]⟩) : s.toList.isEmpty = false := by
  rw [ByteArray.toList_eq]
  cases hs : s.data.toList with
  | nil => exact absurd (ByteArray.ext (Array.toList_inj.1 (by rw [hs]))) h
  | cons a l => rfl
theorem NoE.at {N : Nat} {c : Nat → Sl} (H : NoE N c) {i : Nat} (hi : i < N) {e : Ent} (hc : c i = some e) : e.1.toList.isEmpty = false := isE_false (H e.1 e.2 ⟨i, hi, hc⟩)
theorem empty_eq : (⟨#[]⟩ : ByteArray).toList.isEmpty = true := isE_true rfl
theorem mod_nat (x : Int) (h : 0 ≤ x) (n : Nat) (hn : 0 < n) : ∃ y : Nat, Int.tmod x n = y ∧ x % n = y ∧ y < n := by
  rw [Int.tmod_eq_emod_of_nonneg h]
  have h1 := Int.emod_nonneg x (show (n : Int) ≠ 0 by omega)
  have h2 := Int.emod_lt_of_pos x (show (0 : Int) < n by omega)
  exact ⟨(x % n).toNat, by omega, by omega, by omega⟩

set_option maxRecDepth 100000 in
set_option maxHeartbeats 16000000 in
theorem tslots_walk (r : Int) (v : Value) (l : List Cal) (w : World) (hr : 0 ≤ r ∧ r ≤ 255) (hv : IsAc w v l) (hll : l.length ≤ maxLen) (hby : ∀ d ∈ l, BytC d) :
    Calls Try.prog 4 #[.int .u8 r, v] w fun e w' => e = .returned (.bool true) ∧ Below w.heap.size w w' := by
  have cf := few_any v l 80 w hv hll
  obtain ⟨p, cap, rfl, hrd⟩ := hv
  have H := Lib.hid hrd
  have HY := Lib.hid hby
  clear hrd hby hll
  obtain ⟨M, hM1, hM2, hM3⟩ := mod_nat r hr.1 64 (by decide)
  replace hM1 : Int.tmod r 64 = M := hM1
  replace hM2 : r % 64 = M := hM2
  obtain ⟨N, hN⟩ : ∃ N : Nat, N = M + 2 := ⟨_, rfl⟩
  have hN2 : 2 ≤ N ∧ N ≤ 65 := by omega
  have hwN : IntKind.i64.wrap (2 + (M : Int)) = (N : Int) := by rw [IntWalk.i64_in _ (by omega)]; omega
  have hwM : IntKind.i64.wrap (M : Int) = M := IntWalk.i64_in _ (by omega)
  have hwM8 : IntKind.u8.wrap (M : Int) = M := IntWalk.u8_in _ (by omega)
  have HN2 := Lib.hid hN2
  clear hN hN2 hM3 hr
  go_enter Try.func4, Try.ntmps4
  go_wp2_with fail
  refine cf.mono ?_; rintro e w0 ⟨fb, rfl, hw0, hfb⟩
  replace hw0 := hw0.symm
  subst hw0
  clear cf
  cases fb with
  | false =>
    clear hfb
    go_wp2_with fail
    refine (awake_any _).mono ?_; rintro e w1 ⟨rfl, hb1⟩
    go_wp2
    go_ret
    exact ⟨rfl, hb1⟩
  | true =>
  have hl : (l.length : Int) ≤ 80 := (hfb rfl).1
  have HK := Lib.hid (hfb rfl).2
  clear hfb
  have cn := fun W => new_yes N W HN2.out.1 (by have := HN2.out.2; omega)
  go_wp2_with fail
  refine (cn _).mono ?_; rintro e w1 ⟨g, h, rfl, H1, hg, hh, hb1⟩
  have HG := Lib.hid (show w.heap.size ≤ g ∧ w.heap.size ≤ h from ⟨hg, hh⟩)
  have HT := Lib.hid (show ∃ c K, LieT w1 g h N K c ∧ Good N c K ∧ NoE N c from ⟨noSl, 0, H1, good_new N ⟨HN2.out.1, by have := HN2.out.2; omega⟩, fun k v hh => absurd hh (has_new N k v)⟩)
  have HL := Lib.hid hb1
  clear cn H1 hg hh hb1 hM1 hM2 hwM hwM8 hwN
  go_wp2
  go_loopw [8] (fun i wr => ∃ k : Nat, i = .int .i64 k ∧ k ≤ l.length ∧ Hid (∃ c K, LieT wr g h N K c ∧ Good N c K ∧ NoE N c) ∧ Hid (Below w.heap.size w wr)) (fun i _ => l.length - (intOf i).toNat)
  case atStart => exact ⟨0, rfl, Nat.zero_le _, HT, HL⟩
  case round =>
    clear HT HL
    obtain ⟨k, rfl, hk, HT, HL⟩ := hrel
    by_cases hlt : k < l.length
    · have hlt' : (k : Int) < l.length := by omega
      obtain ⟨b, off, rfl, d0, d1, d2⟩ := H.out k hlt
      have hyk := HY.out l[k] (List.getElem_mem hlt)
      have hks := HK.out l[k] (List.getElem_mem hlt)
      obtain ⟨kd, hkd⟩ : ∃ x, l[k].1 = x := ⟨_, rfl⟩
      obtain ⟨s, hs⟩ : ∃ x, l[k].2.1 = x := ⟨_, rfl⟩
      obtain ⟨x, hx⟩ : ∃ x, l[k].2.2 = x := ⟨_, rfl⟩
      unfold BytC at hyk
      rw [hkd, hs] at hyk
      rw [hkd] at d0
      rw [hs] at d1 hks
      rw [hx] at d2
      have e0 := (HL.out.cell (p := ⟨b, off + k * 3, none⟩) (World.block_lt_of_cell? _ _ d0)).trans d0
      have e1 := (HL.out.cell (p := ⟨b, off + k * 3 + 1, none⟩) (World.block_lt_of_cell? _ _ d1)).trans d1
      have e2 := (HL.out.cell (p := ⟨b, off + k * 3 + 2, none⟩) (World.block_lt_of_cell? _ _ d2)).trans d2
      have HYK := Lib.hid hyk
      clear d0 d1 d2 hkd hs hx hks hyk
      by_cases hse : s = ⟨#[]⟩
      · have hse' : s.toList.isEmpty = true := isE_true hse
        clear hse
        go_wp2_with fail
        refine (awake_any _).mono ?_; rintro e w2 ⟨rfl, hb2⟩
        go_wp2
        go_ret
        exact ⟨rfl, below_call hb2 HL.out.size HL.out⟩
      · have hse' : s.toList.isEmpty = false := isE_false hse
        have HSE := Lib.hid hse
        clear hse
        obtain ⟨c0, K0, HT0, HG0, HE0⟩ := HT.out
        have cd := do_any g h N K0 c0 kd s x wr HT0 HG0 HYK.out.1 HYK.out.2
        have HE0 := Lib.hid HE0
        clear HT0 HG0
        go_wp2_with fail
        refine cd.mono ?_; rintro e w2 ⟨x1, y1, rfl, c, K, HT2, HG2, hB2, -, hh2⟩
        have HNE := Lib.hid (show NoE N c from fun k' v' hk' => by
          by_cases e : k' = s
          · rw [e]; exact HSE.out
          · exact HE0.out k' v' (hh2 k' v' e hk'))
        have HL2 := Lib.hid (HL.out.trans (hB2.to HG.out.1 HG.out.2 HL.out.size))
        have HT2 := Lib.hid HT2
        have HG2 := Lib.hid HG2
        clear cd hB2 hh2 HE0 e0 e1 e2 HYK
        have csl := slots_any g h N K c w2 HT2.out
        go_wp2_with fail
        refine csl.mono ?_; rintro e w3 ⟨v3, rfl, O3, hb3⟩
        obtain ⟨p3, cap3, hv3, hr3⟩ := OwnS.reads O3
        rw [keysL_len] at hv3
        subst hv3
        have HT3 := Lib.hid (HT2.out.call hb3)
        have HL3 := Lib.hid (below_call hb3 HL2.out.size HL2.out)
        have HR3 := Lib.hid (show ∀ j, j < N → ∃ b off, p3 = some ⟨b, off, none⟩ ∧ w3.cell? ⟨b, off + j, none⟩ = some (.string (keyO (c j))) from fun j hj => by
          obtain ⟨b, off, hp, hc⟩ := hr3 j (by rw [keysL_len]; exact hj)
          rw [keysL_at] at hc
          exact ⟨b, off, hp, hc⟩)
        obtain ⟨b3, o3, rfl, -⟩ := HR3.out 0 (by have := HN2.out.1; omega)
        have HR3 := Lib.hid (show ∀ j, j < N → w3.cell? ⟨b3, o3 + j, none⟩ = some (.string (keyO (c j))) from fun j hj => by
          obtain ⟨b, off, hp, hc⟩ := HR3.out j hj
          cases hp
          exact hc)
        clear csl O3 hb3 hr3 HT2 HL2
        go_wp2
        go_loopw [10, 11] (fun m i ws => ∃ j t : Nat, i = .int .i64 j ∧ m = .int .i64 t ∧ j ≤ N ∧ Hid (t = (entsL c j).length) ∧ Hid (Below w3.heap.size w3 ws)) (fun _ i _ => N - (intOf i).toNat)
        case atStart => exact ⟨0, 0, rfl, rfl, Nat.zero_le _, Lib.hid rfl, Lib.hid (Below.refl _ _)⟩
        case round =>
          obtain ⟨j, t, rfl, rfl, hj, ht, HB⟩ := hrel
          by_cases hjN : j < N
          · have hjN' : (j : Int) < N := by omega
            have kj := (HB.out.cell (p := ⟨b3, o3 + j, none⟩) (World.block_lt_of_cell? _ _ (HR3.out j hjN))).trans (HR3.out j hjN)
            have hes := entsL_len_succ c j
            have hwj : IntKind.i64.wrap ((j : Int) + 1) = ((j + 1 : Nat) : Int) := by have := HN2.out; rw [IntWalk.i64_in _ (by omega)]; omega
            have htl := Lib.hid (show t ≤ 65 by have := entsL_le c j; have := ht.out; have := HN2.out; omega)
            cases hc : c j with
            | none =>
              rw [hc] at kj hes
              simp only [keyO] at kj
              have he0 := empty_eq
              have ht2 := Lib.hid (show t = (entsL c (j + 1)).length by rw [hes, ht.out]; rfl)
              clear hes hc
              go_wp2
              go_roundw
              case rel => exact ⟨j + 1, t, by first | rfl | go_num, rfl, by omega, ht2, HB⟩
              case measure => simp [intOf]; omega
            | some e =>
              rw [hc] at kj hes
              simp only [keyO] at kj
              have he1 := HNE.out.at hjN hc
              have ht2 := Lib.hid (show t + 1 = (entsL c (j + 1)).length by rw [hes, ht.out]; rfl)
              have hwt : IntKind.i64.wrap ((t : Int) + 1) = ((t + 1 : Nat) : Int) := by have := htl.out; rw [IntWalk.i64_in _ (by omega)]; omega
              have HT4 := Lib.hid (HT3.out.call HB.out)
              have hks : e.1.size ≤ maxLen := by
                have h0 := HT3.out.ks j hjN
                rw [hc] at h0
                simp only [keyO] at h0
                unfold maxLen; omega
              have cw := where_at g h N K c e.1 e.2 j wr HT4.out HG2.out hks hjN hc
              have co := fun W => of_any e.1 W hks
              have cs := fun W => slot_own N e.1 W (by omega) (by have := HN2.out.2; omega)
              have hol := ow_lt (N := N) (by omega) e.1
              have HCJ := Lib.hid hc
              clear hes hc hks
              go_wp2_with fail
              refine cw.mono ?_; rintro _ w5 ⟨rfl, hb5⟩
              have k5 := (hb5.cell (p := ⟨b3, o3 + j, none⟩) (World.block_lt_of_cell? _ _ kj)).trans kj
              have HB5 := Lib.hid (below_call hb5 HB.out.size HB.out)
              clear cw kj hb5
              go_wp2_with fail
              refine (co _).mono ?_; rintro _ w6 ⟨rfl, hw6⟩
              replace hw6 := hw6.symm
              subst hw6
              go_wp2_with fail
              refine (cs _).mono ?_; rintro _ w6 ⟨rfl, hw6⟩
              replace hw6 := hw6.symm
              subst hw6
              clear co cs
              go_wp2
              go_loopw [12] (fun a ws => ∃ x : Nat, a = .int .i64 x ∧ x < N ∧ Hid (dist N (ow N e.1) x ≤ dist N (ow N e.1) j) ∧ ws = w5) (fun a _ => dist N (intOf a).toNat j)
              case atStart => exact ⟨ow N e.1, rfl, hol, Lib.hid (by rw [dist_self]; omega), rfl⟩
              case round =>
                obtain ⟨x, rfl, hx, hdx, rfl⟩ := hrel
                by_cases hxj : x = j
                · subst hxj
                  go_wp2
                  go_roundw
                  case rel => exact ⟨x + 1, t + 1, by first | rfl | go_num, rfl, by omega, ht2, HB5⟩
                  case measure => simp [intOf]; omega
                · have hxj' : ((x : Int) == (j : Int)) = false := by simpa using (show ¬ (x : Int) = j by omega)
                  have hxN' : (x : Int) < N := by omega
                  have hlt2 : dist N (ow N e.1) x < dist N (ow N e.1) j := by
                    have : dist N (ow N e.1) x ≠ dist N (ow N e.1) j := fun h => hxj (dist_inj hol hx hjN h)
                    have := hdx.out
                    omega
                  have hcx := HG2.out.reach j hjN e HCJ.out x hx hlt2
                  obtain ⟨f, hf⟩ : ∃ f, c x = some f := by cases h : c x with
                    | none => exact absurd h hcx
                    | some f => exact ⟨f, rfl⟩
                  have kx := (HB5.out.cell (p := ⟨b3, o3 + x, none⟩) (World.block_lt_of_cell? _ _ (HR3.out x hx))).trans (HR3.out x hx)
                  rw [hf] at kx
                  simp only [keyO] at kx
                  have hf1 := HNE.out.at hx hf
                  have hwx : IntKind.i64.wrap ((x : Int) + 1) = (x : Int) + 1 := IntWalk.i64_in _ (by have := HN2.out; omega)
                  have hN0 : ((N : Int) == 0) = false := by simp; omega
                  have hnx := nxt_emod hx
                  have hnl := nxt_lt hx
                  have hm := Lib.hid (dist_nxt hx hjN hxj)
                  have hd2 := Lib.hid (show dist N (ow N e.1) (nxt N x) ≤ dist N (ow N e.1) j by
                    have h1 := dist_lt hol hjN
                    have h2 := dist_step hol hx (by omega)
                    omega)
                  obtain ⟨y, hy⟩ : ∃ y, nxt N x = y := ⟨_, rfl⟩
                  rw [hy] at hnx hnl hm hd2
                  clear hf hcx hlt2 hxj hy
                  go_wp2
                  go_roundw
                  case rel => exact ⟨y, by first | rfl | rw [hnx], hnl, hd2, by first | rfl | trivial⟩
                  case measure => (try rw [hnx]); have := hm.out; simp [intOf]; omega
          · obtain rfl : j = N := by omega
            have htK : t = K := by rw [ht.out]; exact HG2.out.cnt
            subst htK
            have HT4 := Lib.hid (HT3.out.call HB.out)
            have HT5 := Lib.hid (show ∃ c K, LieT wr g h j K c ∧ Good j c K ∧ NoE j c from ⟨c, t, HT4.out, HG2.out, HNE.out⟩)
            have HL5 := Lib.hid (below_call HB.out HL3.out.size HL3.out)
            have cl := len_any g h j t c wr HT4.out
            obtain ⟨q, hq⟩ : ∃ q : Nat, 3 * j / 4 = q := ⟨_, rfl⟩
            have hq1 : ((3 : Int) * j) / 4 = (q : Int) := by omega
            have hq6 : Int.tdiv ((3 : Int) * j) 4 = (q : Int) := by rw [Int.tdiv_eq_ediv_of_nonneg (by omega)]; exact hq1
            have hq2 : IntKind.i64.wrap ((3 : Int) * j) = (3 : Int) * j := IntWalk.i64_in _ (by have := HN2.out; omega)
            have hq3 : IntKind.i64.wrap (q : Int) = (q : Int) := IntWalk.i64_in _ (by have := HN2.out; omega)
            have hq4 : ¬ (q : Int) < t := by have := HG2.out.room; omega
            have hq5 : ¬ q < t := by omega
            clear hq
            go_wp2_with fail
            refine cl.mono ?_; rintro _ w7 ⟨rfl, hb7⟩
            have HT7 := Lib.hid (show ∃ c K, LieT w7 g h j K c ∧ Good j c K ∧ NoE j c from ⟨c, t, HT4.out.call hb7, HG2.out, HNE.out⟩)
            have HL7 := Lib.hid (below_call hb7 HL5.out.size HL5.out)
            clear hb7 cl
            go_wp2
            go_roundw
            case rel => exact ⟨k + 1, by first | rfl | go_num, by omega, HT7, HL7⟩
            case measure => simp [intOf]; omega
    · obtain rfl : k = l.length := by omega
      go_wp2_with fail
      refine (awake_any _).mono ?_; rintro _ w2 ⟨rfl, hb2⟩
      go_wp2
      go_ret
      exact ⟨rfl, below_call hb2 HL.out.size HL.out⟩

set_option maxRecDepth 100000 in
theorem tslots_lifted (os : Os) (started : os.Started) (H : Type) (enc : TypeId × Value → H) :
    ReturnsInHanded {} Try.checked os 4 .any (Rows.tableSlotsSpec.pre6 enc Try.prog Try.f4 Rows.tableSlotsRow.domain false) (Rows.tableSlotsSpec.post enc Try.prog Try.f4 false true false false) := by
  refine returnsInHanded_of_change (C := Try.checked) own started (by kernel_rfl) Try.func4
    (ChangeSpec.witness6 (enc := enc) (C := Try.checked) false ⟨#[], #[.int .u8 0, .slice none 0 0], []⟩ 8 (by kernel_rfl) (by kernel_rfl) (by kernel_rfl) (by kernel_rfl)) ?_
  intro W base args ds gs before hval0 hW hcnd _
  have hval : ∀ (j : Nat) t v, Try.f4.params[j]? = some t → args[j]? = some v → Value.okWide Try.prog W .any base t v := hval0
  have hW' := hW
  obtain ⟨p, q, hA0, hV, rfl, hfz, hnd⟩ := hW
  have hA : DataW.TrodAll enc Try.prog W 0 (fun _ => true) true Try.f4.params.toList args.toList ds p := hA0
  rw [Try.params4] at hA hval
  obtain ⟨v0, vs0, d0, ds0, p0, q0, hargs, rfl, rfl, h0, r0⟩ := trodAll_cons hA
  obtain ⟨v1, vs1, d1, ds1, p1, q1, rfl, rfl, rfl, h1, r1⟩ := trodAll_cons r0
  obtain ⟨rfl, rfl, rfl⟩ := trodAll_nil r1
  obtain rfl : args = #[v0, v1] := by cases args; simp_all
  obtain ⟨rfl, rfl⟩ := trodVars_none hV
  obtain ⟨r, rfl, rfl, rfl, hbr⟩ := open_int Try.underlying5 (hval 0 5 v0 rfl rfl) h0
  obtain ⟨l, hl, hll, hby⟩ := open_cals (hval 1 37 v1 rfl rfl) h1
  refine (tslots_walk r v1 l W (bounds_u8 hbr) hl hll hby).mono fun e W' ⟨he, hb⟩ => ?_
  subst he
  exact ⟨_, rfl, law_post rfl rfl Try.underlying4 (by kernel_rfl) rfl hW' hb⟩
theorem tslots_holds : Rows.TableSlotsSaid :=
  OpenClaim.holds_of_wide 4 Try.f4 rfl rfl rfl rfl rfl rfl rfl ⟨rfl, rfl, rfl, rfl, rfl⟩ rfl rfl rfl rfl rfl (by kernel_rfl) Try.func4 (by kernel_rfl)
    (of_decide_eq_true (by kernel_rfl)) (by unfold Func.isWrapper; first | (rw [if_pos (by decide +kernel)]; kernel_rfl) | (rw [if_neg (by decide +kernel)]; exact ⟨rfl, rfl⟩))
    (fun os started H enc _ => tslots_lifted os started H enc)
end Go.Proofs.Ytaenbnohkhmnbaa
