/- The contracts of Say: octet's and the document's. -/
import Derived.Test.YtodebflmojincaaKitB
import Derived.Test.YtodebflmojincaaOctA
namespace Go.Proofs.Ytodebflmojincaa
open Go.RowKit
open Go.Lib (byteCells)
set_option linter.unusedVariables false
set_option linter.unusedSimpArgs false

def sayE (s : ByteArray) (m : Int) : Int := if m < s.size ∨ 255 < s.size then 5 else 0
def sayB (s : ByteArray) : List UInt8 := UInt8.ofNat s.size :: s.data.toList
def sayL (s : ByteArray) (m : Int) : List UInt8 := if sayE s m = 0 then sayB s else []
theorem sayB_len (s : ByteArray) : (sayB s).length = s.size + 1 := by simp [sayB]
theorem sayB_cells {s : ByteArray} (h : s.size ≤ 255) : byteCells (sayB s) = [Value.int .u8 (s.size : Int)] ++ Lib.strCells s := by
  have : (UInt8.ofNat s.size).toNat = s.size := by simp [UInt8.toNat_ofNat]; omega
  simp [sayB, byteCells, Lib.strCells, this]

set_option maxHeartbeats 1000000 in
theorem say_any (s : ByteArray) (m : Int) (w : World) :
    Calls Try.prog 26 #[.string s, .int .i64 m] w (RetB w (sayL s m) (sayE s m)) := by
  by_cases h1 : m < s.size
  · have E : sayE s m = 5 := by simp [sayE, h1]
    have L : sayL s m = [] := by simp [sayL, E]
    rw [E, L]; clear E L
    go_enter Try.func26, Try.ntmps26
    go_wp2
    go_ret2
    exact RetB.mk (IsB.nil _ _) (Below.refl _ _)
  · by_cases h2 : 255 < s.size
    · have E : sayE s m = 5 := by simp [sayE, h2]
      have L : sayL s m = [] := by simp [sayL, E]
      rw [E, L]; clear E L
      have h1' : (s.size : Int) ≤ m := by omega
      have h2' : (255 : Int) < s.size := by omega
      go_enter Try.func26, Try.ntmps26
      go_wp2
      go_ret2
      exact RetB.mk (IsB.nil _ _) (Below.refl _ _)
    · have E : sayE s m = 0 := by simp [sayE]; omega
      have L : sayL s m = sayB s := by simp [sayL, E]
      rw [E, L]; clear E L
      have h1' : (s.size : Int) ≤ m := by omega
      have h2' : (s.size : Int) ≤ 255 := by omega
      have hc := Lib.hid (sayB_cells (show s.size ≤ 255 by omega))
      have hln := Lib.hid (sayB_len s)
      obtain ⟨i0, hi, hz0, hz1, hz2⟩ := info_parts info_u8
      go_enter Try.func26, Try.ntmps26
      go_wp2_with (first
        | (at_make; (refine wpList_make_own _ rfl _ _ 46 rfl w.heap.size 5 i0 (.int .u8 0) 1 Try.underlying46 hi hz0 hz1 _ _ _ (s.size + 1) rfl rfl (by omega) (by rw [hz2]; omega) (by unfold maxLen; omega) (Nat.le_refl _) ?_; intro w1 hown hgr))
        | (at_builtin; (refine wpList_append_own _ rfl _ _ 46 rfl w.heap.size 5 i0 (.int .u8 0) 1 1 Try.underlying46 hi hz0 hz1 hz2 rfl (by decide) _ 0 [] rfl (hown.alloc _) ⟨w1.heap.size, 0, none⟩ 1 1 [Value.int .u8 (s.size : Int)] rfl rfl ?_ (by simp [Value.oneCell']) (by unfold maxLen; omega) (by omega) ?_ ?_; (· intro j u hj; exact (World.ownsRow_lit (base := w1.heap.size) (e := 5) (size := 1) w1 #[Value.int .u8 (s.size : Int)] 1 (Nat.le_refl _) (by unfold maxLen; omega) rfl).cells (g := w1.heap.size) rfl j u hj); (· have := hgr.size; first | omega | (simp only [World.size_alloc]; omega)); intro v2 w2 hown2 hgr2 _))
        | (at_builtin; (refine Lib.wpList_append_own_string _ rfl _ _ 46 9 rfl w.heap.size 5 i0 Try.underlying46 Try.underlying9 hi hz0 hz1 hz2 _ (0 + 1) _ rfl hown2 s rfl (by unfold maxLen; omega) (by omega) ?_ ?_; (· have h1 := hgr.size; have h2 := hgr2.size; (try simp only [World.size_alloc] at h2); omega); intro v3 w3 hown3 hgr3 _)))
      go_ret2
      refine RetB.mk (v := v3) ?_ ?_
      · show w3.ownsRow _ _ _ _ (sayB s).length (byteCells (sayB s))
        rw [hln.out, hc.out, Nat.add_comm]; simpa using hown3
      · have hB1 : Below w.heap.size w w1 := (Below.refl _ _).grown hgr (Nat.le_refl _) (fun k hk => by cases hk)
        have hB2 : Below w.heap.size w w2 := (hB1.alloc hB1.size _).grown hgr2 (by simp; exact Nat.le_succ_of_le hB1.size) (fun k hk => by cases hk; exact Nat.le_refl _)
        exact hB2.grown hgr3 hB2.size (fun k hk => (World.ownsRow.lt hown2 k hk).1)

set_option maxHeartbeats 1000000 in
theorem rsay_any (s : ByteArray) (m : Int) (w : World) :
    Calls Try.prog 27 #[.string s, .int .i64 m] w (RetB w (sayL s m) (sayE s m)) := by
  by_cases h1 : m < s.size
  · have E : sayE s m = 5 := by simp [sayE, h1]
    have L : sayL s m = [] := by simp [sayL, E]
    rw [E, L]; clear E L
    go_enter Try.func27, Try.ntmps27
    go_wp2
    go_ret2
    exact RetB.mk (IsB.nil _ _) (Below.refl _ _)
  · by_cases h2 : 255 < s.size
    · have E : sayE s m = 5 := by simp [sayE, h2]
      have L : sayL s m = [] := by simp [sayL, E]
      rw [E, L]; clear E L
      have h1' : (s.size : Int) ≤ m := by omega
      have h2' : (255 : Int) < s.size := by omega
      go_enter Try.func27, Try.ntmps27
      go_wp2
      go_ret2
      exact RetB.mk (IsB.nil _ _) (Below.refl _ _)
    · have E : sayE s m = 0 := by simp [sayE]; omega
      have L : sayL s m = sayB s := by simp [sayL, E]
      rw [E, L]; clear E L
      have h1' : (s.size : Int) ≤ m := by omega
      have h2' : (s.size : Int) ≤ 255 := by omega
      have hc := Lib.hid (sayB_cells (show s.size ≤ 255 by omega))
      have hln := Lib.hid (sayB_len s)
      obtain ⟨i0, hi, hz0, hz1, hz2⟩ := info_parts info_u8
      go_enter Try.func27, Try.ntmps27
      go_wp2_with (at_builtin; (refine Lib.wpList_append_own_string _ rfl _ _ 46 9 rfl w.heap.size 5 i0 Try.underlying46 Try.underlying9 hi hz0 hz1 hz2 _ 1 [Value.int .u8 (s.size : Int)] rfl (World.ownsRow_lit _ #[Value.int .u8 (s.size : Int)] 1 (Nat.le_refl _) (by unfold maxLen; omega) rfl) s rfl (by unfold maxLen; omega) (by omega) (by simp) ?_; intro v3 w3 hown3 hgr3 _))
      go_ret2
      refine RetB.mk (v := v3) ?_ ?_
      · show w3.ownsRow _ _ _ _ (sayB s).length (byteCells (sayB s))
        rw [hln.out, hc.out, Nat.add_comm]; exact hown3
      · exact ((Below.refl _ _).alloc (Nat.le_refl _) _).grown hgr3 (by simp) (fun k hk => by cases hk; exact Nat.le_refl _)
end Go.Proofs.Ytodebflmojincaa
