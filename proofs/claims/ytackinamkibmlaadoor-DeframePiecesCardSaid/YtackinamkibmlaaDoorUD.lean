/- Layer 2: what Next tells of a text from its beginning to its end; the program's iterator over it. -/
import Derived.Test.YtackinamkibmlaaDoorUC
import Derived.Test.YtackinamkibmlaaDoorClone
import Derived.RangeFuncNested
import Derived.RangeFuncBound
import Derived.RangeFuncCalls
import Derived.RangeFuncLeaves
import Derived.RangeFuncBox
import Derived.Shelf.Abstract
import Derived.Shelf.RegionOpen
import Derived.OwnWalkIn
import Derived.TacticsInMore
import Derived.LoopNIn
import Derived.LoopIn
import Derived.Maps.AppendAt
namespace Go.Proofs.YtackinamkibmlaaDoor
open Go.RowKit Go.Shelf
open Go.Lib (byteCells)
set_option linter.unusedVariables false
set_option linter.unusedSimpArgs false

abbrev Ch := { x : Int × Nat // -1 ≤ x.1 ∧ x.1 ≤ 1114111 ∧ x.2 ≤ 4 }
theorem nxtK_le (l : List UInt8) : nxtK l ≤ 4 := (dec_bd l).2
def nx (l : List UInt8) : Ch := ⟨(nxtC l, nxtK l), (nxtC_ge l).1, (nxtC_ge l).2, nxtK_le l⟩
def chsF : Nat → List UInt8 → List Ch
  | 0, _ => []
  | n + 1, l => if l = [] then [] else nx l :: chsF n (l.drop (nxtK l))
/-- all that Next tells of a text, one behind the other -/
def chs (l : List UInt8) : List Ch := chsF l.length l
theorem chsF_more (n : Nat) : ∀ (m : Nat) (l : List UInt8), l.length ≤ n → l.length ≤ m → chsF n l = chsF m l := by
  induction n with
  | zero =>
    intro m l h1 h2
    have h0 : l = [] := List.eq_nil_of_length_eq_zero (by omega)
    subst h0
    cases m <;> simp [chsF]
  | succ n ih =>
    intro m l h1 h2
    by_cases hl : l = []
    · subst hl; cases m <;> simp [chsF]
    · have hp := nxtK_pos l hl
      cases m with
      | zero => have : 0 < l.length := List.length_pos_iff.2 hl; omega
      | succ m =>
        simp only [chsF, if_neg hl]
        rw [ih m (l.drop (nxtK l)) (by rw [List.length_drop]; omega) (by rw [List.length_drop]; omega)]
theorem chs_nil : chs [] = [] := rfl
theorem chs_cons (l : List UInt8) (h : l ≠ []) : chs l = nx l :: chs (l.drop (nxtK l)) := by
  have hp := nxtK_pos l h
  unfold chs
  obtain ⟨n, hn⟩ : ∃ n, l.length = n + 1 := ⟨l.length - 1, by have := List.length_pos_iff.2 h; omega⟩
  rw [hn]
  simp only [chsF, if_neg h]
  rw [chsF_more n (l.drop (nxtK l)).length (l.drop (nxtK l)) (by rw [List.length_drop]; omega) (Nat.le_refl _)]
theorem chs_len (l : List UInt8) : (chs l).length ≤ l.length := by
  obtain ⟨n, hn⟩ : ∃ n, n = l.length := ⟨_, rfl⟩
  induction n using Nat.strongRecOn generalizing l with
  | _ n ih =>
    by_cases h : l = []
    · subst h; simp [chs_nil]
    · have hp := nxtK_pos l h
      rw [chs_cons l h, List.length_cons]
      have := ih (l.drop (nxtK l)).length (by rw [List.length_drop]; omega) _ rfl
      rw [List.length_drop] at this; omega

abbrev encC (x : Ch) : Array Value := #[.int .i64 x.1.1, .int .i64 (x.1.2 : Int)]
/-- what a round keeps: the text's box, and what lay when the call began -/
def Kp (Bn n₀ : Nat) (W W' : World) : Prop := W'.heap[Bn]? = W.heap[Bn]? ∧ Below n₀ W W'
theorem Kp.refl (Bn n₀ : Nat) (W : World) : Kp Bn n₀ W W := ⟨rfl, Below.refl _ _⟩
theorem kp_t {Bn n₀ : Nat} {A B C : World} (h : Kp Bn n₀ A B) (k : Kp Bn n₀ B C) : Kp Bn n₀ A C := ⟨k.1.trans h.1, h.2.trans k.2⟩
theorem kp_b {Bn n₀ : Nat} {w : World} (hB : Bn < w.heap.size) (hn : n₀ ≤ w.heap.size) (W : World) (l : Nat) (o o' : Obj) (hl : w.heap.size ≤ l) (h : W.heap[l]? = some o) (hc : o.isCells = false) (hw : o.isWalk = false) : Kp Bn n₀ W (W.putObj l o') :=
  ⟨World.putObj_heap_other (by omega), belowK_b hn W l o o' hl h hc hw⟩
theorem grown_of_below {W W' : World} (h : Below W.heap.size W W') : W.grownBy W' none := ⟨h.os, h.tape, h.output, h.size, fun k hk _ => h.block k hk⟩
theorem kp_call {Bn n₀ : Nat} {W W' : World} (h : Below W.heap.size W W') (hB : Bn < W.heap.size) (hn : n₀ ≤ W.heap.size) : Kp Bn n₀ W W' := ⟨h.block Bn hB, h.mono hn⟩
theorem kp_set {Bn n₀ : Nat} {W : World} {p : Addr} (hp : p.block ≠ Bn) (hn : n₀ ≤ p.block) (v : Value) : Kp Bn n₀ W (W.setCell p v) :=
  ⟨by simp [World.setCell, Array.getElem?_modify, hp], (Below.refl _ _).setCell hn _⟩
theorem tabs_below {n₀ : Nat} {w W W' : World} (hT : Tabs w) (hw : w.heap.size ≤ n₀) (h : Below n₀ w W) : Tabs W := hT.call (h.mono hw)

attribute [local go_sem] Oper.semAt_some

theorem ex_drop (s : ByteArray) (k : Nat) : (s.extract k s.size).data.toList = s.data.toList.drop k := by
  cases s with
  | mk d => simp [ByteArray.data_extract, ByteArray.size]; rw [List.take_of_length_le (by simp)]

set_option maxRecDepth 100000 in
set_option maxHeartbeats 2000000 in
theorem chars1_in (n : Nat) (hn : 1 ≤ n) (l Bn n₀ : Nat) (s : ByteArray) (w : World) (hT : Tabs w) (hw : w.heap.size ≤ n₀) (hs : s.size ≤ 281474976710656) (J Jx : List Ch → World → Prop) (W : World)
    (hbW : Below n₀ w W) (hn₀ : n₀ ≤ W.heap.size) (hBnW : Bn < W.heap.size)
    (hJ : AbidesFrom W.heap.size J)
    (hY : ∀ pre x W1, J pre W1 → pre.length < s.size → YieldAt Fence.wide (n - 1) Tryd.prog l (encC x) W1 fun e W' =>
      (e = .returned (.bool true) ∧ J (pre ++ [x]) W' ∧ Kp Bn n₀ W1 W') ∨ (e = .returned (.bool false) ∧ Jx (pre ++ [x]) W'))
    (hBn : W.cell? ⟨Bn, 0, none⟩ = some (.string s)) (h0 : J [] W) :
    CallsIn Fence.wide n Tryd.prog 60 #[.func (.yield l) #[] #[], .pointer (some ⟨Bn, 0, none⟩)] W fun e W' => (∃ v, e = .returned v) ∧
      ((∃ ys, ys = chs s.data.toList ∧ J ys W') ∨ (∃ pre, pre <+: chs s.data.toList ∧ Jx pre W')) := by
  have hpre : ∀ (pre rest : List Ch), chs s.data.toList = pre ++ rest → pre.length ≤ s.size := fun pre rest h => by
    have h1 := chs_len s.data.toList
    rw [h, List.length_append, ← sz_list] at h1; omega
  refine callsIn_of_wp Tryd.func60 rfl trivial ?_ rfl
  simp only [Tryd.ntmps60, List.size_toArray, List.length_cons, List.length_nil, Nat.reduceAdd, Nat.reduceSub, Array.replicate_succ, Array.replicate_zero, List.push_toArray, List.append_toArray, List.nil_append, List.cons_append]
  gi_wp2
  gi_loopw [3] (fun i wr => ∃ (a : Nat) (pre : List Ch), i = .int .i64 a ∧ a ≤ s.size ∧ chs s.data.toList = pre ++ chs (s.data.toList.drop a) ∧ J pre wr ∧ Kp Bn n₀ W wr)
    (fun i _ => s.size - (intOf i).toNat)
  case atStart =>
    exact ⟨0, [], rfl, by omega, by simp, h0, Kp.refl _ _ _⟩
  case round =>
    obtain ⟨a, pre, rfl, ha, hx, hJs, hK⟩ := hrel
    have hc : wr.cell? ⟨Bn, 0, none⟩ = some (.string s) := (World.cell?_of_block (w := W) (a := ⟨Bn, 0, none⟩) hK.1).trans hBn
    have hsz := hK.2.size
    by_cases hlt : a < s.size
    · have hlt' : (a : Int) < s.size := by omega
      have ha' : (a : Int) ≤ s.size := by omega
      have hTr : Tabs wr := hT.call (hbW.trans hK.2 |>.mono hw)
      have hne : s.data.toList.drop a ≠ [] := by
        intro e
        have h1 : (s.data.toList.drop a).length = 0 := by rw [e]; rfl
        rw [List.length_drop, ← sz_list] at h1; omega
      have hxx := chs_cons _ hne
      have hp := nxtK_pos _ hne
      rw [List.length_drop, ← sz_list, ← ex_drop] at hp
      rw [hxx] at hx
      have hnext := next_any (s.extract a s.size) wr hTr
      rw [ex_drop] at hnext hp
      have HX := Lib.hid hx
      clear hx hxx hTr hne
      obtain ⟨x, hxe⟩ : ∃ x, nx (s.data.toList.drop a) = x := ⟨_, rfl⟩
      have hx1 : nxtC (s.data.toList.drop a) = x.1.1 := by rw [← hxe]; rfl
      have hx2 : nxtK (s.data.toList.drop a) = x.1.2 := by rw [← hxe]; rfl
      rw [hx1, hx2] at hnext
      rw [hx2] at hp
      have HE := Lib.hid (And.intro hxe hx2)
      clear hxe hx1 hx2
      have hJ1 : ∀ w1, Below wr.heap.size wr w1 → J pre w1 := fun w1 hb => hJ _ _ _ none hJs (grown_of_below hb) (fun r e => by cases e)
      have hK1 : ∀ w1, Below wr.heap.size wr w1 → Kp Bn n₀ W w1 := fun w1 hb => kp_t hK (kp_call hb (by omega) (by omega))
      have hlen : pre.length < s.size := by
        have h1 := chs_len s.data.toList
        rw [HX.out, List.length_append, List.length_cons, ← sz_list] at h1; omega
      gi_wp2_with (refine ⟨trivial, ?_⟩; gi_at_call 61; refine (callsIn_wide.2 hnext).mono ?_; rintro e w1 ⟨rfl, hb1⟩; obtain ⟨fn, tmps, assign, body, hy, hR⟩ := hY pre x w1 (hJ1 w1 hb1) hlen; dsimp only [encC] at hy)
      refine hR.mono ?_
      rintro e W3 (⟨rfl, hJ3, hk3⟩ | ⟨rfl, hJx3⟩)
      · gi_wp2
        go_roundw
        case rel =>
          refine ⟨a + x.1.2, pre ++ [x], by go_num, by omega, ?_, hJ3, kp_t (hK1 w1 hb1) hk3⟩
          rw [HX.out, HE.out.1, HE.out.2, List.drop_drop, List.append_assoc]; rfl
        case measure => simp [intOf]; omega
      · gi_wp2
        refine bodyPost_ret (results_none rfl _ _ _) rfl ?_
        refine ⟨⟨_, rfl⟩, .inr ⟨pre ++ [x], ⟨chs ((s.data.toList.drop a).drop (nxtK (s.data.toList.drop a))), ?_⟩, hJx3⟩⟩
        rw [HX.out, HE.out.1, List.append_assoc]; rfl
    · obtain rfl : a = s.size := by omega
      have hl : s.data.toList.drop s.size = [] := List.drop_of_length_le (by rw [← sz_list]; exact Nat.le_refl _)
      rw [hl, chs_nil, List.append_nil] at hx
      have HX := Lib.hid hx
      clear hx hl
      gi_wp2
      go_end0
      exact ⟨⟨_, rfl⟩, .inl ⟨pre, HX.out.symm, hJs⟩⟩
theorem chars_stops (n : Nat) (hn : 1 ≤ n) (Bn n₀ : Nat) (s : ByteArray) (w W0 : World) (hT : Tabs w) (hw : w.heap.size ≤ n₀) (hs : s.size ≤ 281474976710656)
    (hbW : Below n₀ w W0) (hn₀ : n₀ ≤ W0.heap.size) (hBn : Bn < W0.heap.size) (hc : W0.cell? ⟨Bn, 0, none⟩ = some (.string s)) :
    SeqStopsK Fence.wide n Tryd.prog 60 #[.pointer (some ⟨Bn, 0, none⟩)] encC (Kp Bn n₀) (fun ys => ys = chs s.data.toList) (fun pre => pre <+: chs s.data.toList) s.size W0 := fun l J Jx W hW hJ hJx hY h0 =>
  chars1_in n hn l Bn n₀ s w hT hw hs J Jx W (hbW.trans (hW.mono hn₀)) (Nat.le_trans hn₀ hW.size) (Nat.lt_of_lt_of_le hBn hW.size) hJ hY ((hW.cell (p := ⟨Bn, 0, none⟩) hBn).trans hc) h0
theorem chars_any (s : ByteArray) (w : World) :
    Calls Tryd.prog 39 #[.string s] w fun e w' => e = .returned (.func (.func 60) #[] #[.pointer (some ⟨w.heap.size, 0, none⟩)]) ∧ w' = w.alloc (.cells #[.string s] 9) := by
  go_enter Tryd.func39, Tryd.ntmps39
  go_wp2
  go_ret
  exact ⟨rfl, rfl⟩
end Go.Proofs.YtackinamkibmlaaDoor
