/- Layer 11, the document's: all frames of bytes; how many there are. -/
import Derived.Test.YtbaclfpkaobggaaR11A
import Derived.Test.YtbaclfpkaobggaaKitT
namespace Go.Proofs.Ytbaclfpkaobggaa
open Go.RowKit
set_option linter.unusedVariables false
set_option linter.unusedSimpArgs false

theorem ext_list (b : ByteArray) (a : Nat) : (b.extract a b.size).data.toList = b.data.toList.drop a := by
  rw [ByteArray.data_extract]
  simp
  rw [List.take_of_length_le]
  simp
/-- what stands where the frames are gone over: those that are done, and the rest -/
def Done (b : ByteArray) (done : List ByteArray) (a : Nat) : Prop := pr b.data.toList = (done ++ (pr (b.data.toList.drop a)).1, (pr (b.data.toList.drop a)).2) ∧ 3 * done.length ≤ a
theorem Done.start (b : ByteArray) : Done b [] 0 := ⟨by simp, Nat.zero_le _⟩
theorem Done.go {b : ByteArray} {done : List ByteArray} {a : Nat} (h : Done b done a) (hE : gtE (b.data.toList.drop a) = 0) :
    Done b (done ++ [gtS (b.data.toList.drop a)]) (a + gtN (b.data.toList.drop a)) ∧ 3 ≤ gtN (b.data.toList.drop a) ∧ a + gtN (b.data.toList.drop a) ≤ b.size := by
  obtain ⟨h1, h2, h3, h4, h5⟩ := gt_bwd hE
  have hz := h1.1
  rw [List.length_drop, ← list_sz] at h5
  refine ⟨⟨?_, ?_⟩, by omega, by omega⟩
  · rw [h.1, pr_yes hE, List.drop_drop]
    simp
  · have := h.2
    rw [List.length_append, List.length_singleton]
    omega
theorem Done.stop {b : ByteArray} {done : List ByteArray} {a : Nat} (h : Done b done a) (hE : ¬ gtE (b.data.toList.drop a) = 0) (ha : a < b.size) :
    alE b.data.toList = gtE (b.data.toList.drop a) ∧ alL b.data.toList = [] ∧ cnt b.data.toList = done.length := by
  have h1 := h.1
  rw [pr_no hE] at h1
  have hne : b.data.toList.drop a ≠ [] := by
    intro e
    have := congrArg List.length e
    rw [List.length_drop, ← list_sz] at this
    simp at this
    omega
  have he : alE b.data.toList = gtE (b.data.toList.drop a) := by
    unfold alE
    rw [h1, if_neg hne]
  refine ⟨he, ?_, ?_⟩
  · unfold alL
    rw [he, if_neg hE]
  · unfold cnt
    rw [h1]
    simp
theorem Done.fin {b : ByteArray} {done : List ByteArray} (h : Done b done b.size) : alE b.data.toList = 0 ∧ alL b.data.toList = done ∧ cnt b.data.toList = done.length := by
  have h1 := h.1
  rw [list_sz b, List.drop_length, pr_nil, List.append_nil] at h1
  have he : alE b.data.toList = 0 := by
    unfold alE
    rw [h1, if_pos rfl]
  refine ⟨he, ?_, ?_⟩
  · unfold alL
    rw [if_pos he, h1]
  · unfold cnt
    rw [h1]
set_option maxRecDepth 100000 in
set_option maxHeartbeats 4000000 in
theorem rfall_any (b : ByteArray) (w : World) (hs : b.size ≤ 1000000) : Calls Try.prog 11 #[.string b] w (RetS w (alL b.data.toList) (alE b.data.toList)) := by
  go_enter Try.func11, Try.ntmps11
  go_wp2
  go_loopw [4, 5] (fun v i wr => ∃ (a : Nat) (done : List ByteArray), i = .int .i64 a ∧ a ≤ b.size ∧ Done b done a ∧ OwnS wr w.heap.size v done ∧ Below w.heap.size w wr) (fun _ i _ => b.size - (intOf i).toNat)
  case atStart => exact ⟨0, [], rfl, Nat.zero_le _, Done.start b, OwnS.nil _ _, Below.refl _ _⟩
  case round =>
    obtain ⟨a, done, rfl, ha, hd, ho, hB⟩ := hrel
    have HO := Lib.hid ho
    have HD := Lib.hid hd
    have hz := hB.size
    clear ho hd
    by_cases hlt : a < b.size
    · have hlt' : (a : Int) < b.size := by omega
      have hle' : (a : Int) ≤ b.size := by omega
      have c := Lib.hid (fun W => rfget_any (b.extract a b.size) W (by simp; omega))
      rw [ext_list] at c
      by_cases hE : gtE (b.data.toList.drop a) = 0
      · obtain ⟨g1, g2, g3⟩ := HD.out.go hE
        have G1 := Lib.hid g1
        simp only [getV, hE] at c
        have hl := g1.2
        rw [List.length_append] at hl
        generalize gtS (b.data.toList.drop a) = tx at c G1 hl
        generalize gtN (b.data.toList.drop a) = n at c G1 g2 g3 hl
        have hmx : max (n : Int) 1 = n := by omega
        have hw : IntKind.i64.wrap ((a : Int) + n) = ((a + n : Nat) : Int) := by rw [IntWalk.i64_in _ (by omega)]; omega
        clear hE g1
        go_wp2_with fail
        refine (c.out _).mono ?_; rintro e w1 ⟨rfl, hb1⟩
        have B1 : Below w.heap.size w w1 := by (repeat (first | (with_reducible exact Below.refl _ _) | ((with_reducible refine below_alloc ?_ ?_ _); · (first | omega | (simp; done) | (simp; omega))) | ((with_reducible refine below_setCell ?_ ?_ _); · (first | omega | (simp; done) | (simp; omega))) | (with_reducible refine Below.drew ?_) | (with_reducible refine below_drewN ?_ _) | ((with_reducible refine below_call (by assumption) ?_ ?_); · (first | omega | (simp; done) | (simp; omega)))))
        have z1 := B1.size
        go_wp2_with (at_builtin; (refine app_one rfl _ _ rfl w.heap.size done _ tx ⟨w1.heap.size, 0, none⟩ rfl ((HO.out.call hb1).alloc _) rfl (by simp [go_sem]) (by omega) (by simp; omega) ?_; intro v5 w5 hown hbel))
        go_roundw
        case rel => exact ⟨a + n, done ++ [tx], by go_num, g3, G1.out, hown, (below_alloc (by omega) B1 _).trans hbel⟩
        case measure => simp [intOf]; omega
      · have H := HD.out.stop hE hlt
        have e0 : (gtE (b.data.toList.drop a) != 0) = true := by simp [hE]
        simp only [getV] at c
        have H1 := Lib.hid H.1
        have H2 := Lib.hid H.2.1
        generalize gtE (b.data.toList.drop a) = E at c e0 H1
        clear hE H
        go_wp2_with fail
        refine (c.out _).mono ?_; rintro e w1 ⟨rfl, hb1⟩
        have B1 : Below w.heap.size w w1 := by (repeat (first | (with_reducible exact Below.refl _ _) | ((with_reducible refine below_alloc ?_ ?_ _); · (first | omega | (simp; done) | (simp; omega))) | ((with_reducible refine below_setCell ?_ ?_ _); · (first | omega | (simp; done) | (simp; omega))) | (with_reducible refine Below.drew ?_) | (with_reducible refine below_drewN ?_ _) | ((with_reducible refine below_call (by assumption) ?_ ?_); · (first | omega | (simp; done) | (simp; omega)))))
        go_wp2
        go_ret2
        rw [H1.out, H2.out]
        exact RetS.mk (OwnS.nil _ _) B1
    · obtain rfl : a = b.size := by omega
      have H := HD.out.fin
      have H1 := Lib.hid H.1
      have H2 := Lib.hid H.2.1
      clear H
      go_wp2
      go_ret2
      rw [H1.out, H2.out]
      exact RetS.mk HO.out hB
set_option maxRecDepth 100000 in
set_option maxHeartbeats 4000000 in
theorem rfcount_any (b : ByteArray) (w : World) (hs : b.size ≤ 1000000) : Calls Try.prog 14 #[.string b] w fun e w' => e = .returned (.int .i64 (cnt b.data.toList : Int)) ∧ Below w.heap.size w w' := by
  go_enter Try.func14, Try.ntmps14
  go_wp2
  go_loopw [3, 4] (fun v i wr => ∃ (a : Nat) (done : List ByteArray), v = .int .i64 done.length ∧ i = .int .i64 a ∧ a ≤ b.size ∧ Done b done a ∧ Below w.heap.size w wr) (fun _ i _ => b.size - (intOf i).toNat)
  case atStart => exact ⟨0, [], rfl, rfl, Nat.zero_le _, Done.start b, Below.refl _ _⟩
  case round =>
    obtain ⟨a, done, rfl, rfl, ha, hd, hB⟩ := hrel
    have HD := Lib.hid hd
    have hz := hB.size
    clear hd
    by_cases hlt : a < b.size
    · have hlt' : (a : Int) < b.size := by omega
      have hle' : (a : Int) ≤ b.size := by omega
      have c := Lib.hid (fun W => rfget_any (b.extract a b.size) W (by simp; omega))
      rw [ext_list] at c
      by_cases hE : gtE (b.data.toList.drop a) = 0
      · obtain ⟨g1, g2, g3⟩ := HD.out.go hE
        have G1 := Lib.hid g1
        simp only [getV, hE] at c
        have hl := g1.2
        rw [List.length_append] at hl
        generalize gtS (b.data.toList.drop a) = tx at c G1 hl
        generalize gtN (b.data.toList.drop a) = n at c G1 g2 g3 hl
        have hmx : max (n : Int) 1 = n := by omega
        have hw : IntKind.i64.wrap ((a : Int) + n) = ((a + n : Nat) : Int) := by rw [IntWalk.i64_in _ (by omega)]; omega
        have hw2 : IntKind.i64.wrap ((done.length : Int) + 1) = ((done.length + 1 : Nat) : Int) := by rw [IntWalk.i64_in _ (by omega)]; omega
        clear hE g1 hl
        go_wp2_with fail
        refine (c.out _).mono ?_; rintro e w1 ⟨rfl, hb1⟩
        have B1 : Below w.heap.size w w1 := by (repeat (first | (with_reducible exact Below.refl _ _) | ((with_reducible refine below_alloc ?_ ?_ _); · (first | omega | (simp; done) | (simp; omega))) | ((with_reducible refine below_setCell ?_ ?_ _); · (first | omega | (simp; done) | (simp; omega))) | (with_reducible refine Below.drew ?_) | (with_reducible refine below_drewN ?_ _) | ((with_reducible refine below_call (by assumption) ?_ ?_); · (first | omega | (simp; done) | (simp; omega)))))
        go_wp2
        go_roundw
        case rel => exact ⟨a + n, done ++ [tx], by simp, by go_num, g3, G1.out, B1⟩
        case measure => simp [intOf]; omega
      · have H := HD.out.stop hE hlt
        have e0 : (gtE (b.data.toList.drop a) != 0) = true := by simp [hE]
        simp only [getV] at c
        have H1 := Lib.hid H.2.2
        generalize gtE (b.data.toList.drop a) = E at c e0
        clear hE H
        go_wp2_with fail
        refine (c.out _).mono ?_; rintro e w1 ⟨rfl, hb1⟩
        have B1 : Below w.heap.size w w1 := by (repeat (first | (with_reducible exact Below.refl _ _) | ((with_reducible refine below_alloc ?_ ?_ _); · (first | omega | (simp; done) | (simp; omega))) | ((with_reducible refine below_setCell ?_ ?_ _); · (first | omega | (simp; done) | (simp; omega))) | (with_reducible refine Below.drew ?_) | (with_reducible refine below_drewN ?_ _) | ((with_reducible refine below_call (by assumption) ?_ ?_); · (first | omega | (simp; done) | (simp; omega)))))
        go_wp2
        go_ret
        exact ⟨ret_int (by rw [H1.out]), B1⟩
    · obtain rfl : a = b.size := by omega
      have H1 := Lib.hid HD.out.fin.2.2
      go_wp2
      go_ret
      exact ⟨ret_int (by rw [H1.out]), hB⟩
end Go.Proofs.Ytbaclfpkaobggaa
