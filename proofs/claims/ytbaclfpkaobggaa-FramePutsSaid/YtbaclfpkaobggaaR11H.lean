/- Layer 11, the program's: what its iterator tells of bytes, one frame behind the other. -/
import Derived.Test.YtbaclfpkaobggaaR11G
import Derived.Test.YtbaclfpkaobggaaKitR
namespace Go.Proofs.Ytbaclfpkaobggaa
open Go.RowKit Go.Shelf
open Go.Lib (byteCells)
set_option linter.unusedVariables false
set_option linter.unusedSimpArgs false
attribute [local go_sem] Oper.semAt_some

/-- what the iterator tells: each frame's text, and then the error that it ends with -/
abbrev Ef := ByteArray × Int
def fsq (l : List UInt8) : List Ef := (pr l).1.map (fun s => (s, 0)) ++ if (pr l).2 = [] then [] else [(gtS (pr l).2, gtE (pr l).2)]
theorem fsq_nil : fsq [] = [] := rfl
theorem fsq_yes {l : List UInt8} (h : gtE l = 0) : fsq l = (gtS l, 0) :: fsq (l.drop (gtN l)) := by
  unfold fsq
  rw [pr_yes h]
  rfl
theorem fsq_no {l : List UInt8} (h : ¬ gtE l = 0) (hl : l ≠ []) : fsq l = [(gtS l, gtE l)] := by
  unfold fsq
  rw [pr_no h]
  simp [hl]
theorem pr_len : ∀ (n : Nat) (l : List UInt8), l.length ≤ n → (pr l).1.length + (pr l).2.length ≤ l.length
  | n, l, hn => by
    by_cases h : gtE l = 0
    · obtain ⟨_, _, _, h4, h5⟩ := gt_bwd h
      have hd : (l.drop (gtN l)).length = l.length - gtN l := List.length_drop
      rw [pr_yes h]
      match n with
      | 0 => omega
      | n + 1 =>
        have := pr_len n (l.drop (gtN l)) (by omega)
        simp only [List.length_cons]
        omega
    · rw [pr_no h]
      simp
theorem fsq_len (l : List UInt8) : (fsq l).length ≤ l.length := by
  have h := pr_len _ l (Nat.le_refl _)
  unfold fsq
  rw [List.length_append, List.length_map]
  by_cases e : (pr l).2 = []
  · rw [if_pos e]
    simp
    omega
  · rw [if_neg e]
    have := List.length_pos_iff.2 e
    simp
    omega
abbrev encF (x : Ef) : Array Value := #[.string x.1, .int .i64 x.2]

set_option maxRecDepth 100000 in
set_option maxHeartbeats 2000000 in
theorem frames1_in (n : Nat) (hn : 1 ≤ n) (l Bn n₀ : Nat) (s : ByteArray) (w : World) (hw : w.heap.size ≤ n₀) (hs : s.size ≤ 1000000) (J Jx : List Ef → World → Prop) (W : World)
    (hbW : Below n₀ w W) (hn₀ : n₀ ≤ W.heap.size) (hBnW : Bn < W.heap.size)
    (hJ : AbidesFrom W.heap.size J)
    (hY : ∀ pre x W1, J pre W1 → pre.length < s.size → YieldAt Fence.wide (n - 1) Try.prog l (encF x) W1 fun e W' =>
      (e = .returned (.bool true) ∧ J (pre ++ [x]) W' ∧ Kp Bn n₀ W1 W') ∨ (e = .returned (.bool false) ∧ Jx (pre ++ [x]) W'))
    (hBn : W.cell? ⟨Bn, 0, none⟩ = some (.string s)) (h0 : J [] W) :
    CallsIn Fence.wide n Try.prog 36 #[.func (.yield l) #[] #[], .pointer (some ⟨Bn, 0, none⟩)] W fun e W' => (∃ v, e = .returned v) ∧
      ((∃ ys, ys = fsq s.data.toList ∧ J ys W') ∨ (∃ pre, pre <+: fsq s.data.toList ∧ Jx pre W')) := by
  have hpre : ∀ (pre rest : List Ef), fsq s.data.toList = pre ++ rest → pre.length ≤ s.size := fun pre rest h => by
    have h1 := fsq_len s.data.toList
    rw [h, List.length_append, ← list_sz] at h1; omega
  refine callsIn_of_wp Try.func36 rfl trivial ?_ rfl
  simp only [Try.ntmps36, List.size_toArray, List.length_cons, List.length_nil, Nat.reduceAdd, Nat.reduceSub, Array.replicate_succ, Array.replicate_zero, List.push_toArray, List.append_toArray, List.nil_append, List.cons_append]
  gi_wp2
  gi_loopw [3] (fun i wr => ∃ (a : Nat) (pre : List Ef), i = .int .i64 a ∧ a ≤ s.size ∧ fsq s.data.toList = pre ++ fsq (s.data.toList.drop a) ∧ J pre wr ∧ Kp Bn n₀ W wr)
    (fun i _ => s.size - (intOf i).toNat)
  case atStart =>
    exact ⟨0, [], rfl, by omega, by simp, h0, Kp.refl _ _ _⟩
  case round =>
    obtain ⟨a, pre, rfl, ha, hx, hJs, hK⟩ := hrel
    have hc : wr.cell? ⟨Bn, 0, none⟩ = some (.string s) := (World.cell?_of_block (w := W) (a := ⟨Bn, 0, none⟩) hK.1).trans hBn
    have hsz := hK.2.size
    by_cases hlt : a < s.size
    · have hlt' : (a : Int) < s.size := by omega
      have ha' : (a : Int) ≤ s.size := by omega
      have hne : s.data.toList.drop a ≠ [] := by
        intro e
        have h1 : (s.data.toList.drop a).length = 0 := by rw [e]; rfl
        rw [List.length_drop, ← list_sz] at h1; omega
      have hget := fget_any (s.extract a s.size) wr (by simp; omega)
      rw [ext_list] at hget
      have hJ1 : ∀ w1, Below wr.heap.size wr w1 → J pre w1 := fun w1 hb => hJ _ _ _ none hJs (grown_of_below hb) (fun r e => by cases e)
      have hK1 : ∀ w1, Below wr.heap.size wr w1 → Kp Bn n₀ W w1 := fun w1 hb => kp_t hK (kp_call hb (by omega) (by omega))
      by_cases hE : gtE (s.data.toList.drop a) = 0
      · have hxx := fsq_yes hE
        obtain ⟨_, _, _, g4, g5⟩ := gt_bwd hE
        rw [List.length_drop, ← list_sz] at g5
        rw [hxx] at hx
        have HX := Lib.hid hx
        have hlen : pre.length < s.size := by
          have h1 := fsq_len s.data.toList
          rw [HX.out, List.length_append, List.length_cons, ← list_sz] at h1; omega
        simp only [getV, hE] at hget
        rw [List.drop_drop] at HX
        clear hx hxx hne hE
        generalize gtS (s.data.toList.drop a) = tx at hget HX
        generalize gtN (s.data.toList.drop a) = k at hget HX g4 g5
        have hk0 : 0 < k := by omega
        have hw : IntKind.i64.wrap ((a : Int) + k) = ((a + k : Nat) : Int) := by rw [IntWalk.i64_in _ (by omega)]; omega
        clear g4
        gi_wp2_with (refine ⟨trivial, ?_⟩; gi_at_call 8; refine (callsIn_wide.2 hget).mono ?_; rintro e w1 ⟨rfl, hb1⟩; obtain ⟨fn, tmps, assign, body, hy, hR⟩ := hY pre (tx, 0) w1 (hJ1 w1 hb1) hlen; dsimp only [encF] at hy)
        refine hR.mono ?_
        rintro e W3 (⟨rfl, hJ3, hk3⟩ | ⟨rfl, hJx3⟩)
        · gi_wp2
          go_roundw
          case rel => exact ⟨a + k, pre ++ [(tx, 0)], by go_num, by omega, by rw [HX.out, List.append_assoc]; rfl, hJ3, kp_t (hK1 w1 hb1) hk3⟩
          case measure => simp [intOf]; omega
        · gi_wp2
          refine bodyPost_ret (results_none rfl _ _ _) rfl ?_
          refine ⟨⟨_, rfl⟩, .inr ⟨pre ++ [(tx, 0)], ⟨fsq (s.data.toList.drop (a + k)), ?_⟩, hJx3⟩⟩
          rw [HX.out, List.append_assoc]; rfl
      · have hxx := fsq_no hE hne
        rw [hxx] at hx
        have HX := Lib.hid hx
        have hlen : pre.length < s.size := by
          have h1 := fsq_len s.data.toList
          rw [HX.out, List.length_append, List.length_cons, ← list_sz] at h1; omega
        simp only [getV] at hget
        have e0 : (gtE (s.data.toList.drop a) != 0) = true := by simpa using hE
        clear hx hxx hne hE
        generalize gtS (s.data.toList.drop a) = tx at hget HX
        generalize gtN (s.data.toList.drop a) = k at hget
        generalize gtE (s.data.toList.drop a) = E at hget HX e0
        gi_wp2_with (refine ⟨trivial, ?_⟩; gi_at_call 8; refine (callsIn_wide.2 hget).mono ?_; rintro e w1 ⟨rfl, hb1⟩; obtain ⟨fn, tmps, assign, body, hy, hR⟩ := hY pre (tx, E) w1 (hJ1 w1 hb1) hlen; dsimp only [encF] at hy)
        refine hR.mono ?_
        rintro e W3 (⟨rfl, hJ3, hk3⟩ | ⟨rfl, hJx3⟩)
        · gi_wp2
          refine bodyPost_ret (results_none rfl _ _ _) rfl ?_
          exact ⟨⟨_, rfl⟩, .inl ⟨pre ++ [(tx, E)], HX.out.symm, hJ3⟩⟩
        · gi_wp2
          refine bodyPost_ret (results_none rfl _ _ _) rfl ?_
          exact ⟨⟨_, rfl⟩, .inr ⟨pre ++ [(tx, E)], by rw [HX.out]; exact List.prefix_refl _, hJx3⟩⟩
    · obtain rfl : a = s.size := by omega
      have hl : s.data.toList.drop s.size = [] := List.drop_of_length_le (by rw [← list_sz]; exact Nat.le_refl _)
      rw [hl, fsq_nil, List.append_nil] at hx
      have HX := Lib.hid hx
      clear hx hl
      gi_wp2
      go_end0
      exact ⟨⟨_, rfl⟩, .inl ⟨pre, HX.out.symm, hJs⟩⟩
theorem frames_stops (n : Nat) (hn : 1 ≤ n) (Bn n₀ : Nat) (s : ByteArray) (w W0 : World) (hw : w.heap.size ≤ n₀) (hs : s.size ≤ 1000000)
    (hbW : Below n₀ w W0) (hn₀ : n₀ ≤ W0.heap.size) (hBn : Bn < W0.heap.size) (hc : W0.cell? ⟨Bn, 0, none⟩ = some (.string s)) :
    SeqStopsK Fence.wide n Try.prog 36 #[.pointer (some ⟨Bn, 0, none⟩)] encF (Kp Bn n₀) (fun ys => ys = fsq s.data.toList) (fun pre => pre <+: fsq s.data.toList) s.size W0 := fun l J Jx W hW hJ hJx hY h0 =>
  frames1_in n hn l Bn n₀ s w hw hs J Jx W (hbW.trans (hW.mono hn₀)) (Nat.le_trans hn₀ hW.size) (Nat.lt_of_lt_of_le hBn hW.size) hJ hY ((hW.cell (p := ⟨Bn, 0, none⟩) hBn).trans hc) h0
theorem frames_any (s : ByteArray) (w : World) :
    Calls Try.prog 28 #[.string s] w fun e w' => e = .returned (.func (.func 36) #[] #[.pointer (some ⟨w.heap.size, 0, none⟩)]) ∧ w' = w.alloc (.cells #[.string s] 9) := by
  go_enter Try.func28, Try.ntmps28
  go_wp2
  go_ret
  exact ⟨rfl, rfl⟩
end Go.Proofs.Ytbaclfpkaobggaa
