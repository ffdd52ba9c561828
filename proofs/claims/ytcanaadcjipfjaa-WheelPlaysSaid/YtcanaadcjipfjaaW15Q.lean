/- Layer 15, the program's (a wheel whose slots are maps): upTo, All. -/
import Derived.Test.YtcanaadcjipfjaaW15U
import Derived.Test.YtcanaadcjipfjaaW15T
import Derived.Lib.MinMax
namespace Go.Proofs.Ytcanaadcjipfjaa
open Go.RowKit
set_option linter.unusedVariables false
set_option linter.unusedSimpArgs false

set_option maxRecDepth 100000 in
set_option maxHeartbeats 4000000 in
theorem wupto_at (g s cap N : Nat) (ms : Nat → Nat) (now : Int) (l : List Du) (w : World) (H : LieAt w g s cap ms N now l) (hW : GoodW l now) (t : Int) (ht : now ≤ t ∧ t ≤ 1099511627776) :
    Calls Try.prog 30 #[ptrW g, .int .i64 t] w fun e w' => ∃ o, e = .returned o ∧ OwnR 62 2 duC w' w.heap.size o (l.takeWhile fun e => decide (e.2 ≤ t)) ∧ Below w.heap.size w w' := by
  obtain ⟨hgood, hN1, hN2⟩ := H.good
  have HH := Lib.hid H
  have s1 := H.slots
  have t1 := H.tick
  have hlen := good_len hgood
  have hn0 := hW.t
  have HG := Lib.hid (And.intro hgood hW)
  obtain ⟨P, hP⟩ : ∃ P : Nat, P = passW N now t := ⟨_, rfl⟩
  have hP2 : P ≤ N ∧ (P : Int) ≤ t - now := by subst hP; unfold passW; omega
  have hwt : IntKind.i64.wrap (t - now) = t - now := IntWalk.i64_in _ (by omega)
  have hmin : min (t - now) (N : Int) = (P : Int) := by subst hP; unfold passW; omega
  have HP := Lib.hid hP
  clear hgood hP hW
  go_enter Try.func30, Try.ntmps30
  go_wp2
  go_region
  go_wp2
  go_loopw [5, 21] (fun o i wr => ∃ (k : Nat) (q : List Du), i = .int .i64 k ∧ k ≤ P ∧ Hid (OwnR 62 2 duC wr w.heap.size o q) ∧ Hid (q.Perm (upW N l now t k)) ∧ Below w.heap.size w wr) (fun _ i _ => P - (intOf i).toNat)
  case atStart => exact ⟨0, [], rfl, Nat.zero_le _, Lib.hid (OwnR.nil _ _ _ _ _), Lib.hid (List.Perm.refl _), Below.drew (Below.refl _ _)⟩
  case round =>
    clear s1 t1
    obtain ⟨k, q, rfl, hk, HO, HQ, hB⟩ := hrel
    by_cases hlt : k < P
    · have hlt' : (k : Int) < P := by omega
      have hw1 : IntKind.i64.wrap (now + 1) = now + 1 := IntWalk.i64_in _ (by omega)
      have hw2 : IntKind.i64.wrap (now + 1 + (k : Int)) = now + 1 + (k : Int) := IntWalk.i64_in _ (by omega)
      have c0 := (HH.out.call hB).tick
      obtain ⟨j, hj, hjN⟩ := slot_of hN1 (a := now + 1 + (k : Int))
      have cS := Lib.hid (wslot_at g s cap N ms now l wr (HH.out.call hB) (now + 1 + (k : Int)) ⟨by omega, by omega⟩ j hj)
      have HJ := Lib.hid (show ((now + 1 + (k : Int)) % (N : Int)).toNat = j by omega)
      clear hj
      go_wp2_with fail
      refine cS.out.mono ?_; rintro e w0 ⟨rfl, hb0⟩
      have hB0 := hB.trans (hb0.mono hB.size)
      have HO0 := Lib.hid (HO.out.call hb0)
      have hM := Lib.hid ((HH.out.call hB0).map j hjN)
      have hmk : ms j < w.heap.size := (HH.out.map j hjN).lt
      have hsz := hB0.size
      have hql : q.length ≤ 8192 := by
        have h1 := upW_len (N := N) (now := now) (t := t) hlen k
        have h2 : k * 256 ≤ 32 * 256 := Nat.mul_le_mul_right _ (by omega)
        have := HQ.out.length_eq
        omega
      have hsl : (slotL N l j).length ≤ 256 := Nat.le_trans (List.length_filter_le _ _) hlen
      clear c0 cS HO hb0 hB
      go_wp2_with (at_range; refine wp_rangeM _ rfl _ rfl lays_map rfl hM.out ?_; intro w1 hR1 hb1 hz1)
      have HR1 := Lib.hid hR1
      have HO1 := Lib.hid (HO0.out.call hb1)
      have B1 := hB0.trans (hb1.mono hsz)
      have hor : u5.ownBlock ≠ some w0.heap.size := fun e => by have := (World.ownsRow.lt HO0.out _ e).2; omega
      have hrw : w.heap.size ≤ w0.heap.size := hsz
      clear HO0 hR1 hb1 hz1 hM hsz hB0
      simp only [Act.put, List.setIfInBounds_toArray, List.set_cons_zero, List.set_cons_succ]
      go_loopg [5] 256 (fun gg o wx => ∃ (qq m : List Du), m.length ≤ gg ∧ Hid (OwnR 62 2 duC wx w.heap.size o qq) ∧ Hid (RgM 3 3 wx (ms j) w0.heap.size (slotL N l j) m) ∧ Hid ((qq ++ m.filter fun e => decide (e.2 ≤ t)).Perm (q ++ (slotL N l j).filter fun e => decide (e.2 ≤ t))) ∧ Below w.heap.size w wx ∧ o.ownBlock ≠ some w0.heap.size)
      case atStart => exact ⟨q, slotL N l j, hsl, HO1, HR1, Lib.hid (List.Perm.refl _), B1, hor⟩
      case round =>
        clear HO1 HR1 B1 hor
        obtain ⟨qq, m, hmg, HO2, HR2, HP2, hB2, hor2⟩ := hrel
        have hqq : qq.length ≤ 8448 := by
          have := HP2.out.length_eq
          rw [List.length_append, List.length_append] at this
          have h3 : ((slotL N l j).filter fun e => decide (e.2 ≤ t)).length ≤ _ := List.length_filter_le _ _
          omega
        have hr2 := HR2.out.lt
        have hrm := HR2.out.ne
        have hDone : m = [] → Hid (qq.Perm (upW N l now t (k + 1))) := fun h => Lib.hid (by
          have h1 := HP2.out
          rw [h, List.filter_nil, List.append_nil] at h1
          rw [upW_next, HJ.out]
          exact h1.trans (HQ.out.append_right _))
        go_wp2_with (first
          | (at_next; refine wp_nextM _ rfl _ rfl lays_map rfl HR2.out ?_ ?_)
          | (at_builtin; fail))
        · intro hm0
          have HD := hDone hm0
          clear hDone
          go_wp2
          go_roundw
          case rel => exact ⟨k + 1, qq, by go_num, hlt, HO2, HD, hB2⟩
          case measure => simp [intOf]; omega
        · intro id a w3 hmem hR3 hshort hg3 hz3 hen
          have hB3 : Below w.heap.size w w3 := hB2.grown hg3 hB2.size (fun j hj => by cases hj; exact hrw)
          have HO3 := Lib.hid (own_kept HO2.out hg3 (.inr hor2))
          have HR3 := Lib.hid hR3
          have HPm := Lib.hid (((once_take HR2.out.2.1 hmem).symm.filter fun e => decide (e.2 ≤ t)).append_left qq |>.trans HP2.out)
          have hrl : ∀ j, u5.ownBlock = some j → w.heap.size ≤ j := fun j hj => (World.ownsRow.lt HO2.out j hj).1
          have HF := Lib.hid (And.intro hB3 (And.intro hshort hz3))
          clear hg3 hR3 hB2 hDone hmem hB3 hshort hz3
          by_cases hat : a ≤ t
          · have HPn := Lib.hid (show ((qq ++ [((id, a) : Du)]) ++ (delM m id).filter fun e => decide (e.2 ≤ t)).Perm (q ++ (slotL N l j).filter fun e => decide (e.2 ≤ t)) from by
              have h1 := HPm.out
              rw [List.filter_cons_of_pos (by simpa using hat)] at h1
              rw [List.append_assoc]
              exact h1)
            clear HPm
            go_wp2_with (at_builtin; refine app_row lays_wdu duC_len duC_one rfl _ _ rfl w.heap.size qq [((id, a) : Du)] _ _ rfl (HO3.out.alloc _) rfl (isR_one w3 _ _ 1 rfl rfl) (by simp; omega) (by have := HF.out.1.size; simp; omega) ?_; intro v5 w5 ho5 hb5 hg5 hw5)
            have hz5 := HF.out.2.2
            have HRa := HR3.out.call (below_alloc (Nat.le_refl w3.heap.size) (Below.refl _ _) (.cells #[.int .i64 id, .int .i64 a] 62))
            go_roundg (delM m id).length
            case measure => have := HF.out.2.1; omega
            case rel =>
              refine ⟨qq ++ [((id, a) : Du)], delM m id, Nat.le_refl _, Lib.hid ho5, Lib.hid (HRa.kept hg5 (fun e => by have := hrl _ e.symm; omega) (fun e => hor2 e.symm)), HPn, ?_, ?_⟩
              · exact (HF.out.1.alloc HF.out.1.size _).trans hb5
              · rcases hw5 with e | e
                · rw [e]; exact hor2
                · rw [e]
                  intro e2
                  have h9 := HR3.out.lt
                  simp at e2
                  omega
          · have HPn := Lib.hid (show (qq ++ (delM m id).filter fun e => decide (e.2 ≤ t)).Perm (q ++ (slotL N l j).filter fun e => decide (e.2 ≤ t)) from by
              have h1 := HPm.out
              rw [List.filter_cons_of_neg (by simpa using hat)] at h1
              exact h1)
            clear HPm
            go_wp2
            go_roundg (delM m id).length
            case measure => have := HF.out.2.1; omega
            case rel => exact ⟨qq, delM m id, Nat.le_refl _, HO3, HR3, HPn, HF.out.1, hor2⟩
    · obtain rfl : k = P := by omega
      have HS := Lib.hid (sort_is (l := q) (L := l.takeWhile fun e => decide (e.2 ≤ t)) (HG.out.1.o.sublist (List.takeWhile_sublist _)) (by
        have h1 := HQ.out
        rw [HP.out] at h1
        have h2 := h1.trans (upW_all hN1 l (fun e he => (HG.out.2.r e he).2.1))
        rwa [filt_while HG.out.1.o] at h2))
      have hql : q.length ≤ 1000000 := by
        have h1 := upW_len (N := N) (now := now) (t := t) hlen k
        have h2 : k * 256 ≤ 32 * 256 := Nat.mul_le_mul_right _ (by omega)
        have := HQ.out.length_eq
        omega
      have cS := Lib.hid (sortdue_any u5 q w.heap.size wr HO.out hql)
      go_wp2_with fail
      refine cS.out.mono ?_; rintro e w4 ⟨rfl, ho4, hb4⟩
      go_wp2
      go_ret
      exact ⟨_, rfl, by rw [HS.out] at ho4; exact ho4, hB.trans hb4⟩
theorem while_all {l : List Du} {now : Int} (hW : GoodW l now) : (l.takeWhile fun e => decide (e.2 ≤ 1099511627776)) = l := by
  rw [← filt_while hW.o]
  exact List.filter_eq_self.2 (fun e he => by have := (hW.r e he); simp; omega)
theorem wall_at (g s cap N : Nat) (ms : Nat → Nat) (now : Int) (l : List Du) (w : World) (H : LieAt w g s cap ms N now l) (hW : GoodW l now) :
    Calls Try.prog 23 #[ptrW g] w fun e w' => ∃ o, e = .returned o ∧ OwnR 62 2 duC w' w.heap.size o l ∧ Below w.heap.size w w' := by
  have cU := Lib.hid (wupto_at g s cap N ms now l w H hW 1099511627776 ⟨by have := hW.t; omega, by omega⟩)
  have HW := Lib.hid (while_all hW)
  rw [HW.out] at cU
  go_enter Try.func23, Try.ntmps23
  go_wp2_with fail
  refine cU.out.mono ?_; rintro e w1 ⟨o, rfl, ho, hb⟩
  go_wp2
  go_ret
  exact ⟨_, rfl, ho, hb⟩
end Go.Proofs.Ytcanaadcjipfjaa
