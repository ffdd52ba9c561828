/- FrameBack: texts that are joined are told, all of them; what is told is joined as it was: the statement holds for every input. No condition. -/
import Derived.Test.YtbaclfpkaobggaaR11W
import Derived.Test.YtbaclfpkaobggaaLawKit
import Derived.Test.YtbaclfpkaobggaaLawOpen
namespace Go.Proofs.Ytbaclfpkaobggaa
open Go.RowKit Go.ChangeShapes Go.WideShapes Go.ChangeAt
set_option linter.unusedVariables false
set_option linter.unusedSimpArgs false

theorem sameB_self (l : List ByteArray) : sameB l l = true := decide_eq_true rfl
theorem sumF_snoc (l : List ByteArray) (s : ByteArray) : sumF (l ++ [s]) = sumF l + fsz s := by simp [sumF]
theorem sumF_le : ∀ l : List ByteArray, sumF l ≤ 130 * l.length
  | [] => by simp [sumF]
  | s :: l => by
    have := sumF_le l
    have := fsz_le s
    rw [sumF_cons, List.length_cons]
    omega
theorem jn_size {l : List ByteArray} (h : ∀ s ∈ l, okF s) : (jnT l).size = sumF l := by
  rw [list_sz, jn_data h]
  induction l with
  | nil => rfl
  | cons s l ih =>
    rw [List.flatMap_cons, List.length_append, ih (fun t ht => h t (List.mem_cons_of_mem _ ht)), sumF_cons, fsz_ok (h s (List.mem_cons_self ..)), frmB_len]
theorem al_few (b : List UInt8) : (alL b).length ≤ b.length ∧ ∀ s ∈ alL b, okF s := by
  obtain ⟨h, h2⟩ := pr_all _ b (Nat.le_refl _)
  have h4 : ∀ l : List ByteArray, l.length ≤ (l.flatMap frmB).length := fun l => by
    induction l with
    | nil => simp
    | cons s l ih =>
      rw [List.flatMap_cons, List.length_append, List.length_cons, frmB_len]
      omega
  have h5 := congrArg List.length h
  rw [List.length_append] at h5
  have := h4 (pr b).1
  unfold alL
  split
  · exact ⟨by omega, h2⟩
  · exact ⟨Nat.zero_le _, fun s hs => by cases hs⟩
set_option maxRecDepth 100000 in
set_option maxHeartbeats 8000000 in
theorem fback_walk (v : Value) (l : List ByteArray) (b : ByteArray) (w : World) (hv : IsS w v l) (hl : l.length ≤ maxLen) :
    Calls Try.prog 5 #[v, .string b] w fun e w' => e = .returned (.bool true) ∧ Below w.heap.size w w' := by
  have aw := Lib.hid (fun W => awake_any W)
  obtain ⟨p, cap, rfl, hp⟩ := hv
  have HP := Lib.hid hp
  clear hp
  by_cases h20 : l.length ≤ 20
  case neg =>
    have h20' : (20 : Int) < l.length := by omega
    clear h20
    go_enter Try.func5, Try.ntmps5
    go_wp2_with fail
    refine (aw.out _).mono ?_; rintro e w1 ⟨rfl, hb1⟩
    go_wp2
    go_ret
    exact ⟨rfl, hb1⟩
  have h20' : ¬ (20 : Int) < l.length := by omega
  by_cases hb : b.size ≤ 400
  case neg =>
    have hb' : (400 : Int) < b.size := by omega
    clear hb h20
    go_enter Try.func5, Try.ntmps5
    go_wp2_with fail
    refine (aw.out _).mono ?_; rintro e w1 ⟨rfl, hb1⟩
    go_wp2
    go_ret
    exact ⟨rfl, hb1⟩
  have hb' : ¬ (400 : Int) < b.size := by omega
  go_enter Try.func5, Try.ntmps5
  go_wp2
  go_loopw [5, 6, 7] (fun fv sz i wr => ∃ (k : Nat) (fs : List ByteArray), i = .int .i64 k ∧ k ≤ l.length ∧ OwnS wr w.heap.size fv fs ∧ (∀ s ∈ fs, okF s) ∧ fs.length ≤ k ∧ sz = .int .i64 (sumF fs : Int) ∧ Below w.heap.size w wr) (fun _ _ i _ => l.length - (intOf i).toNat)
  case atStart => exact ⟨0, [], rfl, Nat.zero_le _, OwnS.nil _ _, (fun s hs => by cases hs), Nat.le_refl _, rfl, Below.refl _ _⟩
  case round =>
    obtain ⟨k, fs, rfl, hk, ho, hok, hfl, rfl, hB⟩ := hrel
    have HO := Lib.hid hok
    have HF := Lib.hid ho
    have hz := hB.size
    clear hok ho
    by_cases hlt : k < l.length
    · have hlt' : (k : Int) < l.length := by omega
      obtain ⟨bb, off, rfl, hc⟩ := HP.out k hlt
      have hc' := (hB.cell (p := ⟨bb, off + k, none⟩) (World.block_lt_of_cell? _ _ hc)).trans hc
      have hlb := World.block_lt_of_cell? _ _ hc'
      by_cases h200 : l[k].size ≤ 200
      · have h200' : ¬ (200 : Int) < l[k].size := by omega
        have q := Lib.hid (fun W => fsize_any l[k] W (by omega))
        have hsn := Lib.hid (sumF_snoc fs l[k])
        have hsl := sumF_le fs
        have hzl := fsz_le l[k]
        by_cases g : 0 < fsz l[k]
        · have g' : (0 : Int) < fsz l[k] := by omega
          have HG := Lib.hid (show ∀ s ∈ fs ++ [l[k]], okF s from fun s hs => by
            rcases List.mem_append.1 hs with h | h
            · exact HO.out s h
            · rw [List.mem_singleton] at h
              subst h
              exact fsz_pos.1 g)
          have hw : IntKind.i64.wrap ((sumF fs : Int) + (fsz l[k] : Int)) = ((sumF fs + fsz l[k] : Nat) : Int) := by rw [IntWalk.i64_in _ (by omega)]; omega
          generalize fsz l[k] = z at q g' hw hsn hzl
          generalize l[k] = s at q hc hc' h200' hsn HG
          have HC := Lib.hid hc
          have hlw := World.block_lt_of_cell? _ _ hc
          clear g h200 hc
          go_wp2_with fail
          refine (q.out _).mono ?_; rintro e w1 ⟨rfl, hb1⟩
          have B1 : Below w.heap.size w w1 := by (repeat (first | (with_reducible exact Below.refl _ _) | ((with_reducible refine below_alloc ?_ ?_ _); · (first | omega | (simp; done) | (simp; omega))) | ((with_reducible refine below_setCell ?_ ?_ _); · (first | omega | (simp; done) | (simp; omega))) | (with_reducible refine Below.drew ?_) | (with_reducible refine below_drewN ?_ _) | ((with_reducible refine below_call (by assumption) ?_ ?_); · (first | omega | (simp; done) | (simp; omega)))))
          have z1 := B1.size
          have hc1 := (hb1.cell (p := ⟨bb, off + k, none⟩) hlb).trans hc'
          have hlb1 := World.block_lt_of_cell? _ _ hc1
          go_wp2_with (at_builtin; (refine app_one rfl _ _ rfl w.heap.size fs _ s ⟨w1.heap.size, 0, none⟩ rfl ((HF.out.call hb1).alloc _) rfl (by simp [go_sem]) (by omega) (by simp; omega) ?_; intro v5 w5 hown hbel; have B5 := (below_alloc (by omega) B1 _).trans hbel; have hc5 := (B5.cell (p := ⟨bb, off + k, none⟩) hlw).trans HC.out))
          refine (q.out _).mono ?_; rintro e w6 ⟨rfl, hb6⟩
          have B6 := below_call hb6 B5.size B5
          go_wp2
          go_roundw
          case rel => exact ⟨k + 1, fs ++ [s], by go_num, by omega, hown.call hb6, HG.out, by rw [List.length_append, List.length_singleton]; omega, by rw [hsn.out, Int.natCast_add], B6⟩
          case measure => simp [intOf]; omega
        · have g' : ¬ (0 : Int) < fsz l[k] := by omega
          generalize fsz l[k] = z at q g' hsn hzl
          generalize l[k] = s at q hc' h200' hsn
          clear g h200 hc
          go_wp2_with fail
          refine (q.out _).mono ?_; rintro e w1 ⟨rfl, hb1⟩
          have B1 := below_call hb1 hB.size hB
          go_wp2
          go_roundw
          case rel => exact ⟨k + 1, fs, by go_num, by omega, HF.out.call hb1, HO.out, by omega, rfl, B1⟩
          case measure => simp [intOf]; omega
      · have h200' : (200 : Int) < l[k].size := by omega
        generalize l[k] = s at hc' h200'
        clear h200 hc
        go_wp2_with fail
        refine (aw.out _).mono ?_; rintro e w1 ⟨rfl, hb1⟩
        have B1 := below_call hb1 hB.size hB
        go_wp2
        go_ret
        exact ⟨rfl, B1⟩
    · obtain rfl : k = l.length := by omega
      have hjs := jn_size HO.out
      obtain ⟨a1, a2, a3⟩ := al_jn HO.out
      have hje := jn_ok.2 HO.out
      have hsl := sumF_le fs
      obtain ⟨o1, o2⟩ := al_few b.data.toList
      have hbl := list_sz b
      have R0 := Lib.hid HF.out.reads
      have sfs : ∀ s ∈ fs, s.size ≤ 1000000 := fun s hs => by have := (HO.out s hs).2; omega
      have sos : ∀ s ∈ alL b.data.toList, s.size ≤ 1000000 := fun s hs => by have := (o2 s hs).2; omega
      have q1 := Lib.hid (fun v W hv => fjoin_any v fs W hv (by omega) sfs)
      have q2 := Lib.hid (fun W => fall_any (jnT fs) W (by omega))
      have q3 := Lib.hid (fun W => fall_any b W (by omega))
      have q4 := Lib.hid (fun v W hv => fjoin_any v (alL b.data.toList) W hv (by omega) sos)
      have q5 := Lib.hid (fun W => fcount_any (jnT fs) W (by omega))
      rw [hje] at q1
      rw [a1, a2] at q2
      rw [a3] at q5
      have e1 : ((jnT fs).size : Int) = (sumF fs : Int) := by omega
      have e2 : (((sumF fs : Nat) : Int) == (sumF fs : Int)) = true := by simp
      have e3 : (((fs.length : Nat) : Int) == (fs.length : Int)) = true := by simp
      have hfl2 : fs.length ≤ 9223372036854775807 := by omega
      generalize jnT fs = s at q1 q2 q5 e1
      generalize (sumF fs : Int) = z at e1 e2 ⊢
      clear hje a1 a2 a3 hjs hsl o1 o2 hbl sfs sos h20 hb
      obtain ⟨pf, capf, rfl, hpf⟩ := R0.out
      have HR : Hid (IsS wr (.slice pf fs.length capf) fs) := Lib.hid ⟨pf, capf, rfl, hpf⟩
      clear hpf
      have HFL := Lib.hid hfl2
      clear hfl2
      by_cases hg : alE b.data.toList = 0
      · obtain ⟨j1, j2⟩ := jn_al hg
        rw [j1, j2] at q4
        rw [hg] at q3
        have e4 : (b.toList == b.toList) = true := by simp
        clear j1 j2 hg
        generalize alL b.data.toList = o at q3 q4
        go_wp2_with fail
        refine (q1.out _ _ HR.out).mono ?_; rintro e w1 ⟨rfl, hb1⟩
        have B1 := below_call hb1 hB.size hB
        have R1 := Lib.hid (HR.out.call hb1)
        go_wp2_with fail
        refine (q2.out _).mono ?_; rintro e w2 ⟨v2, rfl, ho2, hb2⟩
        have B2 := below_call hb2 B1.size B1
        have R2 := Lib.hid (R1.out.call hb2)
        go_wp2_with fail
        refine (q3.out _).mono ?_; rintro e w3 ⟨v3, rfl, ho3, hb3⟩
        have B3 := below_call hb3 B2.size B2
        have R3 := Lib.hid (R2.out.call hb3)
        have M3 := Lib.hid (ho2.reads.call hb3)
        go_wp2_with fail
        refine (q4.out _ _ ho3.reads).mono ?_; rintro e w4 ⟨rfl, hb4⟩
        have B4 := below_call hb4 B3.size B3
        go_wp2_with fail
        refine (sameTexts_any _ _ fs fs _ (M3.out.call hb4) (R3.out.call hb4) HFL.out).mono ?_; rintro e w5 ⟨rfl, hb5⟩
        have B5 := below_call hb5 B4.size B4
        rw [sameB_self]
        go_wp2_with fail
        refine (q5.out _).mono ?_; rintro e w6 ⟨rfl, hb6⟩
        have B6 := below_call hb6 B5.size B5
        go_wp2_with fail
        refine (aw.out _).mono ?_; rintro e w7 ⟨rfl, hb7⟩
        have B7 := below_call hb7 B6.size B6
        go_wp2
        go_ret
        exact ⟨rfl, B7⟩
      · have e5 : (alE b.data.toList != 0) = true := by simp [hg]
        generalize alE b.data.toList = g at q3 e5
        generalize jnE (alL b.data.toList) = je at q4
        generalize jnT (alL b.data.toList) = jt at q4
        generalize alL b.data.toList = o at q3 q4
        clear hg
        go_wp2_with fail
        refine (q1.out _ _ HR.out).mono ?_; rintro e w1 ⟨rfl, hb1⟩
        have B1 := below_call hb1 hB.size hB
        have R1 := Lib.hid (HR.out.call hb1)
        go_wp2_with fail
        refine (q2.out _).mono ?_; rintro e w2 ⟨v2, rfl, ho2, hb2⟩
        have B2 := below_call hb2 B1.size B1
        have R2 := Lib.hid (R1.out.call hb2)
        go_wp2_with fail
        refine (q3.out _).mono ?_; rintro e w3 ⟨v3, rfl, ho3, hb3⟩
        have B3 := below_call hb3 B2.size B2
        have R3 := Lib.hid (R2.out.call hb3)
        have M3 := Lib.hid (ho2.reads.call hb3)
        go_wp2_with fail
        refine (q4.out _ _ ho3.reads).mono ?_; rintro e w4 ⟨rfl, hb4⟩
        have B4 := below_call hb4 B3.size B3
        go_wp2_with fail
        refine (sameTexts_any _ _ fs fs _ (M3.out.call hb4) (R3.out.call hb4) HFL.out).mono ?_; rintro e w5 ⟨rfl, hb5⟩
        have B5 := below_call hb5 B4.size B4
        rw [sameB_self]
        go_wp2_with fail
        refine (q5.out _).mono ?_; rintro e w6 ⟨rfl, hb6⟩
        have B6 := below_call hb6 B5.size B5
        go_wp2_with fail
        refine (aw.out _).mono ?_; rintro e w7 ⟨rfl, hb7⟩
        have B7 := below_call hb7 B6.size B6
        go_wp2
        go_ret
        exact ⟨rfl, B7⟩

set_option maxRecDepth 100000 in
theorem fback_lifted (os : Os) (started : os.Started) (H : Type) (enc : TypeId × Value → H) :
    ReturnsInHanded {} Try.checked os 5 .any (Rows.frameBackSpec.pre6 enc Try.prog Try.f5 Rows.frameBackRow.domain false) (Rows.frameBackSpec.post enc Try.prog Try.f5 false true false false) := by
  refine returnsInHanded_of_change (C := Try.checked) own started (by kernel_rfl) Try.func5
    (ChangeSpec.witness6 (enc := enc) (C := Try.checked) false ⟨#[], #[.slice none 0 0, .string ⟨#[]⟩], []⟩ 8 (by kernel_rfl) (by kernel_rfl) (by kernel_rfl) (by kernel_rfl)) ?_
  intro W base args ds gs before hval0 hW hcnd _
  have hval : ∀ (j : Nat) t v, Try.f5.params[j]? = some t → args[j]? = some v → Value.okWide Try.prog W .any base t v := hval0
  have hW' := hW
  obtain ⟨p, q, hA0, hV, rfl, hfz, hnd⟩ := hW
  have hA : DataW.TrodAll enc Try.prog W 0 (fun _ => true) true Try.f5.params.toList args.toList ds p := hA0
  rw [Try.params5] at hA hval
  obtain ⟨v0, vs0, d0, ds0, p0, q0, hargs, rfl, rfl, h0, r0⟩ := trodAll_cons hA
  obtain ⟨v1, vs1, d1, ds1, p1, q1, rfl, rfl, rfl, h1, r1⟩ := trodAll_cons r0
  obtain ⟨rfl, rfl, rfl⟩ := trodAll_nil r1
  obtain rfl : args = #[v0, v1] := by cases args; simp_all
  obtain ⟨rfl, rfl⟩ := trodVars_none hV
  obtain ⟨l, hl, hln, hls⟩ := open_texts (hval 0 28 v0 rfl rfl) h0
  obtain ⟨b, rfl, rfl, rfl, _⟩ := Go.ChangeMaps.open_string Try.underlying9 (hval 1 9 v1 rfl rfl) h1
  refine (fback_walk v0 l b W hl hln).mono fun e W' ⟨he, hb⟩ => ?_
  subst he
  exact ⟨_, rfl, law_post rfl rfl Try.underlying4 (by kernel_rfl) rfl hW' hb⟩
theorem fback_holds : Rows.FrameBackSaid :=
  OpenClaim.holds_of_wide 5 Try.f5 rfl rfl rfl rfl rfl rfl rfl ⟨rfl, rfl, rfl, rfl, rfl⟩ rfl rfl rfl rfl rfl (by kernel_rfl) Try.func5 (by kernel_rfl)
    (of_decide_eq_true (by kernel_rfl)) (by unfold Func.isWrapper; first | (rw [if_pos (by decide +kernel)]; kernel_rfl) | (rw [if_neg (by decide +kernel)]; exact ⟨rfl, rfl⟩))
    (fun os started H enc _ => fback_lifted os started H enc)
end Go.Proofs.Ytbaclfpkaobggaa
