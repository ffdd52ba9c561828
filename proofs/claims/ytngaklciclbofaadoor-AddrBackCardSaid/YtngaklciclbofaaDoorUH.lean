/- Layer 2: the document's Count, Cut, and its All and Check. -/
import Derived.Test.YtngaklciclbofaaDoorUF
import Derived.Test.YtngaklciclbofaaDoorUG
import Derived.Laws.AppendOwnNone
namespace Go.Proofs.YtngaklciclbofaaDoor
open Go.RowKit
open Go.Lib (byteCells)
set_option linter.unusedVariables false
set_option linter.unusedSimpArgs false

theorem next_at (s : ByteArray) (a : Nat) (ha : a < s.size) (hs : s.size ≤ 1099511627776) :
    ∃ (c : Int) (k : Nat), nxtC (s.data.toList.drop a) = c ∧ nxtK (s.data.toList.drop a) = k ∧ 1 ≤ k ∧ k ≤ 4 ∧ a + k ≤ s.size ∧ -1 ≤ c ∧ c ≤ 1114111 ∧ chs (s.data.toList.drop a) = nx (s.data.toList.drop a) :: chs (s.data.toList.drop (a + k)) ∧
      ∀ w, Calls Tryd.prog 58 #[.string (s.extract a s.size)] w fun e w' => e = .returned (.tuple #[.int .i64 c, .int .i64 k]) ∧ Below w.heap.size w w' := by
  have hne : s.data.toList.drop a ≠ [] := by
    intro e
    have h1 : (s.data.toList.drop a).length = 0 := by rw [e]; rfl
    rw [List.length_drop, ← sz_list] at h1; omega
  have hp := nxtK_pos _ hne
  have hc := nxtC_ge (s.data.toList.drop a)
  refine ⟨_, _, rfl, rfl, hp.1, hp.2.1, ?_, hc.1, hc.2, ?_, fun w => ?_⟩
  · have := hp.2.2
    rw [List.length_drop, ← sz_list] at this; omega
  · rw [chs_cons _ hne, List.drop_drop]
  · have := refnext_any (s.extract a s.size) w (by rw [ByteArray.size_extract]; unfold maxLen; omega)
    rw [ex_drop] at this
    exact this

theorem ex_self (s : ByteArray) : s.extract 0 s.size = s := by
  apply ba_ext
  rw [ex_list, sz_list, List.take_length]
theorem ret_str {a b : ByteArray} (h : a = b) : Ending.returned (.string a) = .returned (.string b) := by rw [h]
theorem cut_more (l : List UInt8) (m : Int) : ∀ (x : Ch) (r : List Ch) (e : Nat), cutN (x :: r) m e = if m < (e : Int) + x.1.2 then e else cutN r m (e + x.1.2) := fun x r e => rfl
set_option maxRecDepth 100000 in
set_option maxHeartbeats 2000000 in
theorem refall_any (s : ByteArray) (w : World) (hs : s.size ≤ 1099511627776) :
    Calls Tryd.prog 51 #[.string s] w (RetI w (allL s.data.toList) (okE s.data.toList)) := by
  obtain ⟨i0, hi, hz0, hz1, hz2⟩ := info_parts info_int
  go_enter Tryd.func51, Tryd.ntmps51
  go_wp2
  go_loopw [4, 5] (fun v j wr => ∃ (a : Nat) (pre : List Ch), j = .int .i64 a ∧ a ≤ s.size ∧ pre.length ≤ a ∧ chs s.data.toList = pre ++ chs (s.data.toList.drop a) ∧ (∀ y ∈ pre, y.1.1 ≠ -1) ∧ wr.ownsRow w.heap.size 3 1 v pre.length (pre.map fun y => Value.int .i64 y.1.1) ∧ Below w.heap.size w wr) (fun v j _ => s.size - (intOf j).toNat)
  case atStart => exact ⟨0, [], rfl, by omega, by simp, by simp, by simp, World.ownsRow_nil _ _ _ _, Below.refl _ _⟩
  case round =>
    obtain ⟨a, pre, rfl, ha, hpa, hpre, hne, hown, hB⟩ := hrel
    have hsz := hB.size
    have HP := Lib.hid (And.intro hpre hne)
    have HO := Lib.hid hown
    obtain ⟨ao, cap, hve⟩ := row_shape hown
    subst hve
    clear hpre hne hown
    by_cases hlt : a < s.size
    · have hlt' : (a : Int) < s.size := by omega
      obtain ⟨c, k, hc, hk, hk1, hk4, hak, hc1, hc2, hch, hcall⟩ := next_at s a hlt hs
      have HC := Lib.hid (And.intro hc (And.intro hk hch))
      clear hch hc hk
      have hk1' : (1 : Int) ≤ k := by omega
      have ha' : (a : Int) ≤ 1099511627776 := by omega
      have hk4' : (k : Int) ≤ 4 := by omega
      by_cases hneg : c < 0
      · have HN := Lib.hid hneg
        go_wp2_with (go_at_call 58; refine (hcall _).mono ?_; rintro e w1 ⟨rfl, hb1⟩)
        go_ret2
        have hb : Below w.heap.size w w1 := by (repeat (first | (with_reducible exact Below.refl _ _) | ((with_reducible refine below_alloc ?_ ?_ _); · (first | omega | (simp; done) | (simp; omega))) | ((with_reducible refine below_setCell ?_ ?_ _); · (first | omega | (simp; done) | (simp; omega))) | (with_reducible refine Below.drew ?_) | (with_reducible refine below_drewN ?_ _) | ((with_reducible refine below_call (by assumption) ?_ ?_); · (first | omega | (simp; done) | (simp; omega)))))
        obtain ⟨h1, h2, h3⟩ := HC.out
        have hm : ∃ y ∈ pre ++ [nx (s.data.toList.drop a)], y.1.1 = -1 := ⟨nx (s.data.toList.drop a), by simp, by show nxtC _ = -1; omega⟩
        have hp : pre ++ [nx (s.data.toList.drop a)] <+: chs s.data.toList := ⟨chs (s.data.toList.drop (a + k)), by rw [HP.out.1, h3, List.append_assoc]; rfl⟩
        rw [okB_no hp hm, allL_no hp hm]
        exact RetI.mk (OwnI.nil _ _) hb
      · have hneg' : 0 ≤ c := by omega
        go_wp2_with (first
          | (go_at_call 58; refine (hcall _).mono ?_; rintro e w1 ⟨rfl, hb1⟩; have hz1s := hb1.size)
          | (at_builtin; refine wpList_append_own _ rfl _ _ 69 rfl w.heap.size 3 i0 (.int .i64 0) 1 8 Tryd.underlying69 hi hz0 hz1 hz2 rfl (by decide) _ pre.length (pre.map fun y => Value.int .i64 y.1.1) rfl ((World.ownsRow.call' HO.out hb1).alloc _) ⟨w1.heap.size, 0, none⟩ 1 1 [Value.int .i64 c] rfl rfl (cell_one_new _ _ _) (by simp [Value.oneCell']) (by unfold maxLen; omega) (by omega) (by simp; omega) ?_; intro v' w2 hown' hgr _))
        have hm : max (k : Int) 1 = k := by omega
        rw [hm]
        go_roundw
        case rel =>
          obtain ⟨h1, h2, h3⟩ := HC.out
          refine ⟨a + k, pre ++ [nx (s.data.toList.drop a)], by go_num, hak, by simp; omega, by rw [HP.out.1, h3, List.append_assoc]; rfl, mem_snoc_ne HP.out.2 (by show nxtC _ ≠ -1; omega), ?_, ?_⟩
          · rw [List.length_append, List.map_append, List.map_cons, List.map_nil]
            show World.ownsRow _ _ _ _ _ _ (_ ++ [Value.int .i64 (nxtC _)])
            rw [h1]
            exact hown'
          · exact ((hB.trans (hb1.mono hsz)).alloc (by omega) _).grown hgr (by simp; omega) (fun q hq => ((World.ownsRow.call' HO.out hb1).lt q hq).1)
        case measure => simp [intOf]; omega
    · obtain rfl : a = s.size := by omega
      have hl : s.data.toList.drop s.size = [] := List.drop_of_length_le (by rw [← sz_list]; exact Nat.le_refl _)
      have H2 := Lib.hid hl
      clear hl
      go_wp2
      go_ret2
      obtain ⟨h1, h2⟩ := HP.out
      rw [H2.out, chs_nil, List.append_nil] at h1
      rw [← h1] at h2
      rw [okB_yes h2, allL_yes h2]
      refine RetI.mk ?_ hB
      have := HO.out
      unfold OwnI
      rw [List.length_map, List.map_map, h1]
      exact this

set_option maxHeartbeats 2000000 in
theorem refcheck_any (s : ByteArray) (w : World) (hs : s.size ≤ 1099511627776) :
    Calls Tryd.prog 42 #[.string s] w fun e w' => e = .returned (.int .i64 (okE s.data.toList)) ∧ Below w.heap.size w w' := by
  have hall := refall_any s w hs
  obtain ⟨E, hE⟩ : ∃ E, okE s.data.toList = E := ⟨_, rfl⟩
  rw [hE] at hall ⊢
  clear hE
  go_enter Tryd.func42, Tryd.ntmps42
  go_wp2_with (go_at_call 51; refine hall.mono ?_; rintro e w1 ⟨v, rfl, _, hb1⟩)
  go_ret
  exact ⟨rfl, hb1⟩
end Go.Proofs.YtngaklciclbofaaDoor
