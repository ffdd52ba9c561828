/- FifoEnds: what is pushed ahead is taken first, what is put behind is told last; from the other end it comes the other way round: the statement holds for every input. No condition. -/
import Derived.Test.YtphgilgmoeliaaaLawKit
import Derived.Test.YtphgilgmoeliaaaLawOpenI
import Derived.Test.YtphgilgmoeliaaaF5X
namespace Go.Proofs.Ytphgilgmoeliaaa
open Go.RowKit Go.ChangeShapes Go.WideShapes Go.ChangeAt
set_option linter.unusedVariables false
set_option linter.unusedSimpArgs false

set_option maxRecDepth 100000 in
set_option maxHeartbeats 8000000 in
theorem ends_walk (v1 v2 : Value) (l m : List Int) (w : World) (h1 : IsI w v1 l) (h2 : IsI w v2 m) :
    Calls Try.prog 6 #[v1, v2] w fun e w' => e = .returned (.bool true) ∧ Below w.heap.size w w' := by
  obtain ⟨p1, c1, rfl, hr1⟩ := h1
  obtain ⟨p2, c2, rfl, hr2⟩ := h2
  have H1 := Lib.hid hr1
  have H2 := Lib.hid hr2
  clear hr1 hr2
  by_cases hl : 30 < l.length
  · have hl' : (30 : Int) < l.length := by omega
    clear hl
    go_enter Try.func6, Try.ntmps6
    go_wp2_with fail
    refine (awake_any _).mono ?_; rintro e w1 ⟨rfl, hb1⟩
    go_wp2
    go_ret
    exact ⟨rfl, hb1⟩
  by_cases hm : 30 < m.length
  · have hl' : (l.length : Int) ≤ 30 := by omega
    have hm' : (30 : Int) < m.length := by omega
    clear hl hm
    go_enter Try.func6, Try.ntmps6
    go_wp2_with fail
    refine (awake_any _).mono ?_; rintro e w1 ⟨rfl, hb1⟩
    go_wp2
    go_ret
    exact ⟨rfl, hb1⟩
  have hl' : (l.length : Int) ≤ 30 := by omega
  have hm' : (m.length : Int) ≤ 30 := by omega
  have hl : l.length ≤ 30 := by omega
  have hm : m.length ≤ 30 := by omega
  go_enter Try.func6, Try.ntmps6
  go_wp2_with fail
  refine (new_yes 64 _ (by decide) (by decide)).mono ?_; rintro e w1 ⟨g, h, rfl, HR1, hg, hh, hb1⟩
  have B1 := Lib.hid (But2.below g h hb1)
  have HR1 := Lib.hid HR1
  have HG := Lib.hid (show w.heap.size ≤ g ∧ w.heap.size ≤ h from ⟨hg, hh⟩)
  clear hb1 hg hh
  go_wp2_with fail
  go_loopw [7] (fun i wr => ∃ k : Nat, i = .int .i64 k ∧ k ≤ l.length ∧ Hid (IsR wr g h 64 (l.take k).reverse) ∧ Hid (But2 w wr g h)) (fun i _ => l.length - (intOf i).toNat)
  case atStart => exact ⟨0, rfl, by omega, HR1, B1⟩
  case round =>
    obtain ⟨k, rfl, hk, HR, HB⟩ := hrel
    by_cases hlt : k < l.length
    · have hlt' : (k : Int) < l.length := by omega
      obtain ⟨b, off, rfl, d0⟩ := H1.out k hlt
      obtain ⟨x, hx⟩ : ∃ x, l[k] = x := ⟨_, rfl⟩
      have htk := Lib.hid (show pushP 64 (l.take k).reverse x = (l.take (k + 1)).reverse by
        rw [← hx, List.take_succ_eq_append_getElem hlt, List.reverse_append]; unfold pushP; rw [if_pos (by simp; omega)]; rfl)
      rw [hx] at d0
      have c0 := ((HB.out.to HG.out.1 HG.out.2 (Nat.le_refl _)).cell (p := ⟨b, off + k, none⟩) (World.block_lt_of_cell? _ _ d0)).trans d0
      clear d0 hx
      go_wp2_with fail
      refine (push_any g h 64 _ x _ HR.out).mono ?_; rintro e w2 ⟨rfl, HR2, b2⟩
      rw [htk.out] at HR2
      have HR2 := Lib.hid HR2
      have HB2 := Lib.hid (HB.out.trans b2)
      clear b2
      go_wp2
      go_roundw
      case rel => exact ⟨k + 1, by go_num, by omega, HR2, HB2⟩
      case measure => first | (simp [intOf]; done) | (simp [intOf]; omega)
    · obtain rfl : k = l.length := by omega
      have HR0 := Lib.hid (show IsR wr g h 64 (l.reverse ++ m.take 0) by have := HR.out; rw [List.take_length] at this; simpa using this)
      clear HR HR1 B1
      go_wp2
      go_loopw [8] (fun i wr => ∃ k : Nat, i = .int .i64 k ∧ k ≤ m.length ∧ Hid (IsR wr g h 64 (l.reverse ++ m.take k)) ∧ Hid (But2 w wr g h)) (fun i _ => m.length - (intOf i).toNat)
      case atStart => exact ⟨0, rfl, by omega, HR0, HB⟩
      case round =>
        clear HR0 HB
        obtain ⟨k, rfl, hk, HR, HB⟩ := hrel
        by_cases hlt : k < m.length
        · have hlt' : (k : Int) < m.length := by omega
          obtain ⟨b, off, rfl, d0⟩ := H2.out k hlt
          obtain ⟨x, hx⟩ : ∃ x, m[k] = x := ⟨_, rfl⟩
          have htk := Lib.hid (show putP 64 (l.reverse ++ m.take k) x = l.reverse ++ m.take (k + 1) by
            rw [← hx, List.take_succ_eq_append_getElem hlt, ← List.append_assoc]; unfold putP; rw [if_pos (by simp; omega)])
          rw [hx] at d0
          have c0 := ((HB.out.to HG.out.1 HG.out.2 (Nat.le_refl _)).cell (p := ⟨b, off + k, none⟩) (World.block_lt_of_cell? _ _ d0)).trans d0
          clear d0 hx
          go_wp2_with fail
          refine (put_any g h 64 _ x _ HR.out).mono ?_; rintro e w2 ⟨rfl, HR2, b2⟩
          rw [htk.out] at HR2
          have HR2 := Lib.hid HR2
          have HB2 := Lib.hid (HB.out.trans b2)
          clear b2
          go_wp2
          go_roundw
          case rel => exact ⟨k + 1, by go_num, by omega, HR2, HB2⟩
          case measure => first | (simp [intOf]; done) | (simp [intOf]; omega)
        · obtain rfl : k = m.length := by omega
          have hlen : ((l.reverse ++ m.take m.length).length : Int) = (l.length : Int) + m.length := by simp
          have cl := len_any g h 64 _ _ HR.out
          rw [hlen] at cl
          clear hlen
          go_wp2_with fail
          refine cl.mono ?_; rintro e w2 ⟨rfl, b2⟩
          have HR2 := Lib.hid (HR.out.call b2)
          have HB2 := Lib.hid (HB.out.call b2)
          clear b2 cl HR HB
          go_wp2
          go_loopw [9] (fun i wr => ∃ k : Nat, i = .int .i64 ((k : Int) - 1) ∧ k ≤ m.length ∧ Hid (IsR wr g h 64 (l.reverse ++ m.take k)) ∧ Hid (But2 w wr g h)) (fun i _ => (intOf i + 1).toNat)
          case atStart => exact ⟨m.length, rfl, by omega, HR2, HB2⟩
          case round =>
            clear HR2 HB2
            obtain ⟨k, rfl, hk, HR, HB⟩ := hrel
            cases k with
            | succ k =>
              have hlt : k < m.length := by omega
              have hlt' : (k : Int) < m.length := by omega
              have hk1 : ((k + 1 : Nat) : Int) - 1 = (k : Int) := by omega
              rw [hk1]
              obtain ⟨b, off, rfl, d0⟩ := H2.out k hlt
              obtain ⟨x, hx⟩ : ∃ x, m[k] = x := ⟨_, rfl⟩
              have HRx : IsR wr g h 64 ((l.reverse ++ m.take k) ++ [x]) := by have := HR.out; rw [List.take_succ_eq_append_getElem hlt, ← List.append_assoc, hx] at this; exact this
              rw [hx] at d0
              have cs := last_some g h 64 _ x _ HRx
              clear hx HR hk1 HRx
              go_wp2_with fail
              refine cs.mono ?_; rintro e w2 ⟨rfl, HR2, b2⟩
              have HR2 := Lib.hid HR2
              have HB2 := Lib.hid (HB.out.trans b2)
              have c0 := ((HB2.out.to HG.out.1 HG.out.2 (Nat.le_refl _)).cell (p := ⟨b, off + k, none⟩) (World.block_lt_of_cell? _ _ d0)).trans d0
              clear b2 HB d0 cs
              go_wp2
              go_roundw
              case rel => exact ⟨k, by first | rfl | go_num, by omega, HR2, HB2⟩
              case measure => first | (simp [intOf]; done) | (simp [intOf]; omega)
            | zero =>
              have HR0 := Lib.hid (show IsR wr g h 64 (l.take l.length).reverse by have := HR.out; rw [List.take_length]; simpa using this)
              clear HR
              go_wp2
              go_loopw [12] (fun i wr => ∃ k : Nat, i = .int .i64 ((k : Int) - 1) ∧ k ≤ l.length ∧ Hid (IsR wr g h 64 (l.take k).reverse) ∧ Hid (But2 w wr g h)) (fun i _ => (intOf i + 1).toNat)
              case atStart => exact ⟨l.length, rfl, by omega, HR0, HB⟩
              case round =>
                clear HR0 HB
                obtain ⟨k, rfl, hk, HR, HB⟩ := hrel
                cases k with
                | succ k =>
                  have hlt : k < l.length := by omega
                  have hlt' : (k : Int) < l.length := by omega
                  have hk1 : ((k + 1 : Nat) : Int) - 1 = (k : Int) := by omega
                  rw [hk1]
                  obtain ⟨b, off, rfl, d0⟩ := H1.out k hlt
                  obtain ⟨x, hx⟩ : ∃ x, l[k] = x := ⟨_, rfl⟩
                  have hxx : (l.take (k + 1)).reverse = x :: (l.take k).reverse := by rw [List.take_succ_eq_append_getElem hlt, List.reverse_append, hx]; rfl
                  have HRx : IsR wr g h 64 (x :: (l.take k).reverse) := by have := HR.out; rw [hxx] at this; exact this
                  rw [hx] at d0
                  have cs : Calls Try.prog 21 #[ptrV g] wr fun e w' => e = .returned (.tuple #[.int .i64 x, .bool true]) ∧ IsR w' g h 64 (l.take k).reverse ∧ But2 wr w' g h := (take_any g h 64 _ _ HRx).mono (by rintro e w' ⟨rfl, a1, a2⟩; exact ⟨by simp, a1, a2⟩)
                  clear hx HR hk1 HRx hxx
                  go_wp2_with fail
                  refine cs.mono ?_; rintro e w2 ⟨rfl, HR2, b2⟩
                  have HR2 := Lib.hid HR2
                  have HB2 := Lib.hid (HB.out.trans b2)
                  have c0 := ((HB2.out.to HG.out.1 HG.out.2 (Nat.le_refl _)).cell (p := ⟨b, off + k, none⟩) (World.block_lt_of_cell? _ _ d0)).trans d0
                  clear b2 HB d0 cs
                  go_wp2
                  go_roundw
                  case rel => exact ⟨_, _, _, _, _, _, _, _, _, _, _, _, _, _, _, _, _, _, _, _, _, _, _, ⟨k, rfl, by omega, HR2, HB2⟩, rfl⟩
                  case measure => first | (simp [intOf]; done) | (simp [intOf]; omega)
                | zero =>
                  go_wp2_with fail
                  refine (len_any g h 64 [] _ HR.out).mono ?_; rintro e w2 ⟨rfl, b2⟩
                  have HR2 := Lib.hid (HR.out.call b2)
                  have HB2 := Lib.hid (HB.out.call b2)
                  clear b2 HR HB
                  go_wp2_with fail
                  refine (room_any g h 64 [] _ HR2.out).mono ?_; rintro e w3 ⟨rfl, b3⟩
                  have HB3 := Lib.hid (HB2.out.call b3)
                  clear b3 HR2 HB2
                  go_wp2_with fail
                  refine (awake_any _).mono ?_; rintro e w4 ⟨rfl, b4⟩
                  have HB4 := Lib.hid (HB3.out.call b4)
                  clear b4 HB3
                  go_wp2
                  go_ret
                  exact ⟨rfl, HB4.out.to HG.out.1 HG.out.2 (Nat.le_refl _)⟩

set_option maxRecDepth 100000 in
theorem fends_lifted (os : Os) (started : os.Started) (H : Type) (enc : TypeId × Value → H) :
    ReturnsInHanded {} Try.checked os 6 .any (Rows.fifoEndsSpec.pre6 enc Try.prog Try.f6 Rows.fifoEndsRow.domain false) (Rows.fifoEndsSpec.post enc Try.prog Try.f6 false true false false) := by
  refine returnsInHanded_of_change (C := Try.checked) own started (by kernel_rfl) Try.func6
    (ChangeSpec.witness6 (enc := enc) (C := Try.checked) false ⟨#[], #[.slice none 0 0, .slice none 0 0], []⟩ 8 (by kernel_rfl) (by kernel_rfl) (by kernel_rfl) (by kernel_rfl)) ?_
  intro W base args ds gs before hval0 hW hcnd _
  have hval : ∀ (j : Nat) t v, Try.f6.params[j]? = some t → args[j]? = some v → Value.okWide Try.prog W .any base t v := hval0
  have hW' := hW
  obtain ⟨p, q, hA0, hV, rfl, hfz, hnd⟩ := hW
  have hA : DataW.TrodAll enc Try.prog W 0 (fun _ => true) true Try.f6.params.toList args.toList ds p := hA0
  rw [Try.params6] at hA hval
  obtain ⟨v0, vs0, d0, ds0, p0, q0, hargs, rfl, rfl, h0, r0⟩ := trodAll_cons hA
  obtain ⟨v1, vs1, d1, ds1, p1, q1, rfl, rfl, rfl, h1, r1⟩ := trodAll_cons r0
  obtain ⟨rfl, rfl, rfl⟩ := trodAll_nil r1
  obtain rfl : args = #[v0, v1] := by cases args; simp_all
  obtain ⟨rfl, rfl⟩ := trodVars_none hV
  obtain ⟨l, hl, _, _⟩ := open_nums_k Try.underlying28 Try.underlying3 (by kernel_rfl) (hval 0 28 v0 rfl rfl) h0
  obtain ⟨m, hm, _, _⟩ := open_nums_k Try.underlying28 Try.underlying3 (by kernel_rfl) (hval 1 28 v1 rfl rfl) h1
  refine (ends_walk v0 v1 l m W hl hm).mono fun e W' ⟨he, hb⟩ => ?_
  subst he
  exact ⟨_, rfl, law_post rfl rfl Try.underlying4 (by kernel_rfl) rfl hW' hb⟩
theorem fends_holds : Rows.FifoEndsSaid :=
  OpenClaim.holds_of_wide 6 Try.f6 rfl rfl rfl rfl rfl rfl rfl ⟨rfl, rfl, rfl, rfl, rfl⟩ rfl rfl rfl rfl rfl (by kernel_rfl) Try.func6 (by kernel_rfl)
    (of_decide_eq_true (by kernel_rfl)) (by unfold Func.isWrapper; first | (rw [if_pos (by decide +kernel)]; kernel_rfl) | (rw [if_neg (by decide +kernel)]; exact ⟨rfl, rfl⟩))
    (fun os started H enc _ => fends_lifted os started H enc)
end Go.Proofs.Ytphgilgmoeliaaa
