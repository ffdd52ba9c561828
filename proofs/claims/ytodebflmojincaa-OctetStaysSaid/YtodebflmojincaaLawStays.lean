/- OctetStays: the first error of a Read stays, whatever is read behind it: the statement holds for every input. No condition. -/
import Derived.Test.YtodebflmojincaaLawOpen
import Derived.Test.YtodebflmojincaaOctL
import Derived.Test.YtodebflmojincaaOctEq
import Derived.Deep.RegionHeld3
import Derived.Deep.DrawnRows
import Derived.Deep.DeepCutAuto
namespace Go.Proofs.Ytodebflmojincaa
open Go.RowKit Go.ChangeShapes Go.WideShapes Go.ChangeAt Go.ChangeMaps
set_option linter.unusedVariables false
set_option linter.unusedSimpArgs false
attribute [local go_sem ↓] Go.wp_at_zero Go.wp_at_succ

theorem cell_keep {W w1 : World} (hb : Below W.heap.size W w1) {a : Addr} {v : Value} (h : W.cell? a = some v) : w1.cell? a = some v := (hb.cell (World.block_lt_of_cell? _ _ h)).trans h

theorem cell_keep' {W w1 : World} (hb : Below W.heap.size W w1) {a : Addr} {v : Value} (h : W.cell? a = some v) : w1.cell? a = some v := cell_keep hb h
theorem numV_stay (s : ByteArray) (x : Int) : numV s 0 2 x = .tuple #[.agg #[.string s, .int .i64 0, .int .i64 2], .int .i64 0] := by
  have hc : chk s 0 2 = 2 := rfl
  rw [numV_bad (by rw [hc]; decide), hc]
theorem textV_stay (s : ByteArray) (x : Int) : textV s 0 2 x = .tuple #[.agg #[.string s, .int .i64 0, .int .i64 2], .string ⟨#[]⟩] := by
  have hc : chk s 0 2 = 2 := rfl
  rw [textV_bad (by rw [hc]; decide), hc]
theorem restV_stay (s : ByteArray) : restV s 0 2 = .tuple #[.agg #[.string s, .int .i64 0, .int .i64 2], .string ⟨#[]⟩] := by
  have hc : chk s 0 2 = 2 := rfl
  rw [restV_bad (by rw [hc]; decide), hc]
theorem left_stay (s : ByteArray) : leftN s 0 2 = 0 := leftN_bad (by have hc : chk s 0 2 = 2 := rfl; rw [hc]; decide)
theorem done_stay (s : ByteArray) : doneN s 0 2 = 2 := doneN_ne (by decide)
theorem numV_three (s : ByteArray) : numV s 0 0 3 = .tuple #[.agg #[.string s, .int .i64 0, .int .i64 2], .int .i64 0] :=
  numV_arg (chk_ok (by omega) (by omega)) (by decide)

theorem lt_call {W w1 : World} (hb : Below W.heap.size W w1) {b o : Nat} {v : Value} (h : W.cell? ⟨b, o, none⟩ = some v) : b < w1.heap.size := World.block_lt_of_cell? _ _ (cell_keep hb h)
theorem cell_alloc {W : World} {a : Addr} {v : Value} (h : W.cell? a = some v) (o : Obj) : (W.alloc o).cell? a = some v := (World.cell?_alloc_lt _ _ _ (World.block_lt_of_cell? _ _ h)).trans h
set_option maxHeartbeats 2000000 in
theorem stays_walk (s : ByteArray) (v : Value) (l : List Int) (w : World) (hv : IsI w v l) (hs : s.size ≤ maxLen) (hl : l.length ≤ 9223372036854775807) :
    Calls Try.prog 8 #[.string s, v] w fun e w' => e = .returned (.bool true) ∧ Below w.heap.size w w' := by
  obtain ⟨p, cap, rfl, hp⟩ := hv
  have Hp := Lib.hid hp
  unfold maxLen at hs
  clear hp
  by_cases hbig : (100 : Int) < s.size
  · go_enter Try.func8, Try.ntmps8
    go_wp2_with (go_at_call 9; refine (awake_any _).mono ?_; rintro e w1 ⟨rfl, hb1⟩)
    go_ret
    exact ⟨rfl, hb1⟩
  · by_cases hbig2 : (20 : Int) < l.length
    · have h1 : (s.size : Int) ≤ 100 := by omega
      go_enter Try.func8, Try.ntmps8
      go_wp2_with (go_at_call 9; refine (awake_any _).mono ?_; rintro e w1 ⟨rfl, hb1⟩)
      go_ret
      exact ⟨rfl, hb1⟩
    · have h1 : (s.size : Int) ≤ 100 := by omega
      have h2 : (l.length : Int) ≤ 20 := by omega
      have hs48 : s.size ≤ 281474976710656 := by omega
      have hm : s.size ≤ maxLen := by unfold maxLen; omega
      clear hbig hbig2
      go_enter Try.func8, Try.ntmps8
      go_wp2_with (first
        | (go_at_call 22; refine (open_any _ _).mono ?_; rintro e w1 ⟨rfl, hb1⟩)
        | (go_at_call 11; refine (num_any _ _ _ _ _ hm).mono ?_; rintro e w2 ⟨rfl, hb2⟩; rw [numV_three]))
      have hz1 : w.heap.size ≤ w1.heap.size := hb1.size
      have hz2 : w.heap.size ≤ w2.heap.size := Nat.le_trans hb1.size hb2.size
      have hR0 : Row3 (w2.alloc (.cells #[.string s, .int .i64 0, .int .i64 2] 27)) w2.heap.size (.string s) (.int .i64 0) (.int .i64 2) := by simp [Row3, go_sem]
      have hB0 : Below w.heap.size w (w2.alloc (.cells #[.string s, .int .i64 0, .int .i64 2] 27)) := by (repeat (first | (with_reducible exact Below.refl _ _) | ((with_reducible refine below_alloc ?_ ?_ _); · (first | omega | (simp; done) | (simp; omega))) | ((with_reducible refine below_setCell ?_ ?_ _); · (first | omega | (simp; done) | (simp; omega))) | (with_reducible refine Below.drew ?_) | ((with_reducible refine below_call (by assumption) ?_ ?_); · (first | omega | (simp; done) | (simp; omega)))))
      go_loopw [7] (fun i wr => ∃ k : Nat, k ≤ l.length ∧ i = .int .i64 k ∧ Row3 wr w2.heap.size (.string s) (.int .i64 0) (.int .i64 2) ∧ Below w.heap.size w wr) (fun i _ => l.length - (intOf i).toNat)
      case atStart => exact ⟨0, by omega, rfl, hR0, hB0⟩
      case round =>
        obtain ⟨k, hk, rfl, hR, hB⟩ := hrel
        clear hR0 hB0
        by_cases hlt : k < l.length
        · have hlt' : (k : Int) < l.length := by omega
          obtain ⟨b, off, rfl, d0⟩ := Hp.out k hlt
          have hc := cell_keep' hB d0
          clear d0
          obtain ⟨⟨c0, c1, c2⟩, f0, f1, f2⟩ := id hR
          go_wp2
          have hn0 := World.new_ne wr _ c0
          have hn1 := World.new_ne wr _ hc
          go_cut [8, 9] (fun s8 s9 wx => ∃ q : Nat, s8 = .pointer (some ⟨q, 0, none⟩) ∧ s9 = .int .i64 0 ∧ Row3 wx q (.string s) (.int .i64 0) (.int .i64 2) ∧ Row3 wx w2.heap.size (.string s) (.int .i64 0) (.int .i64 2) ∧ wx.cell? ⟨b, off + k, none⟩ = some (.int .i64 l[k]) ∧ Below w.heap.size w wx)
          case first =>
            go_region_held3 (fun w' => w'.cell? ⟨w2.heap.size, 0, none⟩ = some (.string s) ∧ w'.cell? ⟨w2.heap.size, 1, none⟩ = some (.int .i64 0) ∧ w'.cell? ⟨w2.heap.size, 2, none⟩ = some (.int .i64 2) ∧ w'.cell? ⟨b, off + k, none⟩ = some (.int .i64 l[k]))
              (first | ((try dsimp only); refine ⟨?_, ?_, ?_, ?_⟩ <;> first | assumption | exact cell_keep (by assumption) (by assumption) | exact cell_alloc (by assumption) _) | go_keep)
              (first | (go_at_call 11; (with_reducible refine (num_any _ _ _ _ wr.drew hm).mono ?_); rintro e w4 ⟨rfl, hb4⟩; rw [numV_stay]; have y0 : w4.cell? ⟨w2.heap.size, 0, none⟩ = some (.string s) := cell_keep hb4 c0; have y1 : w4.cell? ⟨w2.heap.size, 1, none⟩ = some (.int .i64 0) := cell_keep hb4 c1; have y2 : w4.cell? ⟨w2.heap.size, 2, none⟩ = some (.int .i64 2) := cell_keep hb4 c2; have y3 : w4.cell? ⟨b, off + k, none⟩ = some (.int .i64 l[k]) := cell_keep hb4 hc; have y4 : w2.heap.size < w4.heap.size := World.block_lt_of_cell? _ _ y0; have y5 : b < w4.heap.size := World.block_lt_of_cell? _ _ y3) | (go_at_call 11; (with_reducible refine (num_any _ _ _ _ (wr.alloc _).drew hm).mono ?_); rintro e w4 ⟨rfl, hb4⟩; rw [numV_stay]; have y0 : w4.cell? ⟨w2.heap.size, 0, none⟩ = some (.string s) := cell_keep hb4 (cell_alloc c0 _); have y1 : w4.cell? ⟨w2.heap.size, 1, none⟩ = some (.int .i64 0) := cell_keep hb4 (cell_alloc c1 _); have y2 : w4.cell? ⟨w2.heap.size, 2, none⟩ = some (.int .i64 2) := cell_keep hb4 (cell_alloc c2 _); have y3 : w4.cell? ⟨b, off + k, none⟩ = some (.int .i64 l[k]) := cell_keep hb4 (cell_alloc hc _); have y4 : w2.heap.size < w4.heap.size := World.block_lt_of_cell? _ _ y0; have y5 : b < w4.heap.size := World.block_lt_of_cell? _ _ y3; obtain ⟨y6, y7, y8⟩ := bcellAt (b := wr.heap.size) (by simp) hb4))
            all_goals go_wp2_with fail
            · go_meet
              have hb5 : Below wr.heap.size wr w4 := ⟨hb4.os, hb4.tape, hb4.output, hb4.size, hb4.block⟩
              exact ⟨w4.heap.size, rfl, rfl, by simp [Row3, go_sem], (hR.call hb5 hR.lt).alloc y4 _, cell_alloc y3 _, (hB.trans (hb5.mono hB.size)).alloc (Nat.le_trans hB.size hb5.size) _⟩
            · go_meet
              have hb5 : Below (wr.alloc (.cells #[.string ⟨#[]⟩, .int .i64 0, .int .i64 0] 27)).heap.size (wr.alloc (.cells #[.string ⟨#[]⟩, .int .i64 0, .int .i64 0] 27)) w4 := ⟨hb4.os, hb4.tape, hb4.output, hb4.size, hb4.block⟩
              have hq : Row3 (wr.alloc (.cells #[.string ⟨#[]⟩, .int .i64 0, .int .i64 0] 27)) wr.heap.size (.string ⟨#[]⟩) (.int .i64 0) (.int .i64 0) := by simp [Row3, go_sem]
              have hne : wr.heap.size ≠ w2.heap.size := by have := hR.lt; omega
              have hne2 : wr.heap.size ≠ b := by have := World.block_lt_of_cell? _ _ hc; simp at this; omega
              have hB5 := (hB.alloc hB.size _).trans (hb5.mono (by simp; exact Nat.le_succ_of_le hB.size))
              refine ⟨wr.heap.size, rfl, rfl, (((hq.call hb5 hq.lt).set0 _).set1 _).set2 _, (((((hR.alloc hR.lt _).call hb5 (by simp; exact Nat.lt_succ_of_lt hR.lt)).other hne _).other hne _).other hne _), ?_, ((hB5.setCell hB.size _).setCell hB.size _).setCell hB.size _⟩
              rw [World.cell?_setCell_other _ _ _ _ (by intro e; exact hne2 (by simpa using congrArg Addr.block e)), World.cell?_setCell_other _ _ _ _ (by intro e; exact hne2 (by simpa using congrArg Addr.block e)), World.cell?_setCell_other _ _ _ _ (by intro e; exact hne2 (by simpa using congrArg Addr.block e))]
              exact y3
          case rest =>
            obtain ⟨q, rfl, rfl, hR2, hR', hc', hB'⟩ := hcut
            clear c0 c1 c2 f0 f1 f2 hn0 hn1 hc hB hR
            obtain ⟨⟨e0, e1, e2⟩, g0, g1, g2⟩ := id hR2
            have hm0 := World.new_ne wc _ e0
            have hm1 := World.new_ne wc _ hc'
            go_wp2_with fail
            go_cut [10, 11] (fun s10 s11 wx => ∃ q2 : Nat, s10 = .pointer (some ⟨q2, 0, none⟩) ∧ s11 = .string ⟨#[]⟩ ∧ Row3 wx q2 (.string s) (.int .i64 0) (.int .i64 2) ∧ Row3 wx w2.heap.size (.string s) (.int .i64 0) (.int .i64 2) ∧ Below w.heap.size w wx)
            case first =>
              go_region_held3 (fun w' => w'.cell? ⟨q, 0, none⟩ = some (.string s) ∧ w'.cell? ⟨q, 1, none⟩ = some (.int .i64 0) ∧ w'.cell? ⟨q, 2, none⟩ = some (.int .i64 2) ∧ w'.cell? ⟨b, off + k, none⟩ = some (.int .i64 l[k]))
                (first | ((try dsimp only); refine ⟨?_, ?_, ?_, ?_⟩ <;> first | assumption | exact cell_keep (by assumption) (by assumption) | exact cell_alloc (by assumption) _) | go_keep)
                (first | (go_at_call 13; (with_reducible refine (text_any _ _ _ _ wc.drew hs48).mono ?_); rintro e w4 ⟨rfl, hb4⟩; rw [textV_stay]; have y0 : w4.cell? ⟨q, 0, none⟩ = some (.string s) := cell_keep hb4 e0; have y1 : w4.cell? ⟨q, 1, none⟩ = some (.int .i64 0) := cell_keep hb4 e1; have y2 : w4.cell? ⟨q, 2, none⟩ = some (.int .i64 2) := cell_keep hb4 e2; have y3 : w4.cell? ⟨b, off + k, none⟩ = some (.int .i64 l[k]) := cell_keep hb4 hc'; have y4 : q < w4.heap.size := World.block_lt_of_cell? _ _ y0; have y5 : b < w4.heap.size := World.block_lt_of_cell? _ _ y3) | (go_at_call 13; (with_reducible refine (text_any _ _ _ _ (wc.alloc _).drew hs48).mono ?_); rintro e w4 ⟨rfl, hb4⟩; rw [textV_stay]; have y0 : w4.cell? ⟨q, 0, none⟩ = some (.string s) := cell_keep hb4 (cell_alloc e0 _); have y1 : w4.cell? ⟨q, 1, none⟩ = some (.int .i64 0) := cell_keep hb4 (cell_alloc e1 _); have y2 : w4.cell? ⟨q, 2, none⟩ = some (.int .i64 2) := cell_keep hb4 (cell_alloc e2 _); have y3 : w4.cell? ⟨b, off + k, none⟩ = some (.int .i64 l[k]) := cell_keep hb4 (cell_alloc hc' _); have y4 : q < w4.heap.size := World.block_lt_of_cell? _ _ y0; have y5 : b < w4.heap.size := World.block_lt_of_cell? _ _ y3; obtain ⟨y6, y7, y8⟩ := bcellAt (b := wc.heap.size) (by simp) hb4))
              all_goals go_wp2_with fail
              · go_meet
                have hb5 : Below wc.heap.size wc w4 := ⟨hb4.os, hb4.tape, hb4.output, hb4.size, hb4.block⟩
                exact ⟨w4.heap.size, rfl, rfl, by simp [Row3, go_sem], (hR'.call hb5 hR'.lt).alloc (hR'.call hb5 hR'.lt).lt _, (hB'.trans (hb5.mono hB'.size)).alloc (Nat.le_trans hB'.size hb5.size) _⟩
              · go_meet
                have hb5 : Below (wc.alloc (.cells #[.string ⟨#[]⟩, .int .i64 0, .int .i64 0] 27)).heap.size (wc.alloc (.cells #[.string ⟨#[]⟩, .int .i64 0, .int .i64 0] 27)) w4 := ⟨hb4.os, hb4.tape, hb4.output, hb4.size, hb4.block⟩
                have hq : Row3 (wc.alloc (.cells #[.string ⟨#[]⟩, .int .i64 0, .int .i64 0] 27)) wc.heap.size (.string ⟨#[]⟩) (.int .i64 0) (.int .i64 0) := by simp [Row3, go_sem]
                have hne : wc.heap.size ≠ w2.heap.size := by have := hR'.lt; omega
                have hB5 := (hB'.alloc hB'.size _).trans (hb5.mono (by simp; exact Nat.le_succ_of_le hB'.size))
                exact ⟨wc.heap.size, rfl, rfl, (((hq.call hb5 hq.lt).set0 _).set1 _).set2 _, (((((hR'.alloc hR'.lt _).call hb5 (by simp; exact Nat.lt_succ_of_lt hR'.lt)).other hne _).other hne _).other hne _), ((hB5.setCell hB'.size _).setCell hB'.size _).setCell hB'.size _⟩
            case rest =>
              obtain ⟨q2, rfl, rfl, hR3, hR4, hB4⟩ := hcut
              clear e0 e1 e2 g0 g1 g2 hm0 hm1 hc' hB' hR2 hR'
              obtain ⟨⟨e0, e1, e2⟩, g0, g1, g2⟩ := id hR3
              go_wp2_with fail
              refine (rest_any _ _ _ _ hs48).mono ?_
              rintro e w5 ⟨rfl, hb5⟩
              rw [restV_stay]
              have hR5 := hR4.call hb5 hR4.lt
              have hlt5 := hR5.lt
              obtain ⟨⟨c0, c1, c2⟩, f0, f1, f2⟩ := id hR5
              have hcmp := fun W => neq_ownRead s 0 2 W
              have hB5 := hB4.trans (hb5.mono hB4.size)
              clear e0 e1 e2 g0 g1 g2 hR3 hR4
              go_wp2_with fail
              refine (left_any _ _ _ _ hm).mono ?_
              rintro e w6 ⟨rfl, hb6⟩
              rw [left_stay]
              obtain ⟨hk6, hf6, hz6⟩ := bcellAt (b := w5.heap.size) (by simp) hb6
              have hR6 := (hR5.alloc hlt5 (.cells #[.string s, .int .i64 0, .int .i64 2] 27)).call hb6 (by simp; omega)
              have hB6 := (hB5.alloc hB5.size (.cells #[.string s, .int .i64 0, .int .i64 2] 27)).trans (hb6.mono (by simp; exact Nat.le_succ_of_le hB5.size))
              clear c0 c1 c2 f0 f1 f2 hcmp
              go_wp2_with fail
              refine (done_any _ _ _ _ hm).mono ?_
              rintro e w7 ⟨rfl, hb7⟩
              rw [done_stay]
              have hR7 := hR6.call hb7 hR6.lt
              have hB7 := hB6.trans (hb7.mono hB6.size)
              go_wp2_with fail
              go_roundw
              case rel => exact ⟨k + 1, by omega, by go_num, hR7, hB7⟩
              case measure => simp [intOf]; omega
        · go_wp2_with (go_at_call 9; refine (awake_any _).mono ?_; rintro e w4 ⟨rfl, hb4⟩)
          go_ret
          exact ⟨rfl, hB.trans (hb4.mono hB.size)⟩

set_option maxRecDepth 100000 in
theorem stays_lifted (os : Os) (started : os.Started) (H : Type) (enc : TypeId × Value → H) :
    ReturnsInHanded {} Try.checked os 8 .any (Rows.octetStaysSpec.pre6 enc Try.prog Try.f8 Rows.octetStaysRow.domain false) (Rows.octetStaysSpec.post enc Try.prog Try.f8 false true false false) := by
  refine returnsInHanded_of_change (C := Try.checked) own started (by kernel_rfl) Try.func8
    (ChangeSpec.witness6 (enc := enc) (C := Try.checked) false ⟨#[], #[.string ⟨#[]⟩, .slice none 0 0], []⟩ 8 (by kernel_rfl) (by kernel_rfl) (by kernel_rfl) (by kernel_rfl)) ?_
  intro W base args ds gs before hval0 hW hcnd _
  have hval : ∀ (j : Nat) t v, Try.f8.params[j]? = some t → args[j]? = some v → Value.okWide Try.prog W .any base t v := hval0
  have hW' := hW
  obtain ⟨p, q, hA0, hV, rfl, hfz, hnd⟩ := hW
  have hA : DataW.TrodAll enc Try.prog W 0 (fun _ => true) true Try.f8.params.toList args.toList ds p := hA0
  rw [Try.params8] at hA hval
  obtain ⟨v0, vs0, d0, ds0, p0, q0, hargs, rfl, rfl, h0, r0⟩ := trodAll_cons hA
  obtain ⟨v1, vs1, d1, ds1, p1, q1, rfl, rfl, rfl, h1, r1⟩ := trodAll_cons r0
  obtain ⟨rfl, rfl, rfl⟩ := trodAll_nil r1
  obtain rfl : args = #[v0, v1] := by cases args; simp_all
  obtain ⟨rfl, rfl⟩ := trodVars_none hV
  obtain ⟨s, rfl, rfl, rfl, ws⟩ := open_string Try.underlying9 (hval 0 9 v0 rfl rfl) h0
  obtain ⟨l, hl, hln⟩ := open_nums (hval 1 66 v1 rfl rfl) h1
  refine (stays_walk s v1 l W hl ws (by unfold maxLen at hln; omega)).mono fun e W' ⟨he, hb⟩ => ?_
  subst he
  exact ⟨_, rfl, law_post rfl rfl Try.underlying4 (by kernel_rfl) rfl hW' hb⟩

theorem stays_holds : Rows.OctetStaysSaid :=
  OpenClaim.holds_of_wide 8 Try.f8 rfl rfl rfl rfl rfl rfl rfl ⟨rfl, rfl, rfl, rfl, rfl⟩ rfl rfl rfl rfl rfl (by kernel_rfl) Try.func8 (by kernel_rfl)
    (of_decide_eq_true (by kernel_rfl)) (by unfold Func.isWrapper; first | (rw [if_pos (by decide +kernel)]; kernel_rfl) | (rw [if_neg (by decide +kernel)]; exact ⟨rfl, rfl⟩))
    (fun os started H enc _ => stays_lifted os started H enc)
end Go.Proofs.Ytodebflmojincaa
