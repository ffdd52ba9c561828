/- Layer 7, the program's: contracts: Put, Add. -/
import Derived.Test.YtaenbnohkhmnbaaT7C
namespace Go.Proofs.Ytaenbnohkhmnbaa
open Go.RowKit
set_option linter.unusedVariables false
set_option linter.unusedSimpArgs false

/-- how many there are when a slot is set -/
def setK (c : Nat → Sl) (K r : Nat) : Nat := if (c r).isSome then K else K + 1
theorem set_any (g h N K : Nat) (c : Nat → Sl) (a : Nat) (k : ByteArray) (v : Int) (w : World) (H : LieT w g h N K c) (ha : a < N) (hk : k.size ≤ 64) (hK : (c a).isSome = true ∨ K + 1 ≤ 256) :
    Calls Try.prog 32 #[ptrV g, .int .i64 a, .string k, .int .i64 v] w fun e w' => e = .returned (.tuple #[]) ∧ LieT w' g h N (setK c K a) (upd c a (some (k, v))) ∧ But2 w w' g h := by
  by_cases hc : (c a).isSome = true
  · have : setK c K a = K := by unfold setK; rw [if_pos hc]
    rw [this]
    exact set_old g h N K c a k v w H ha hk hc
  · have : setK c K a = K + 1 := by unfold setK; rw [if_neg hc]
    rw [this]
    exact set_new g h N K c a k v w H ha hk (by simpa using hc) (hK.resolve_left hc)

theorem put_long (g h N K : Nat) (c : Nat → Sl) (k : ByteArray) (v : Int) (w : World) (H : LieT w g h N K c) (hk : 64 < k.size) :
    Calls Try.prog 17 #[ptrV g, .string k, .int .i64 v] w fun e w' => e = .returned (.int .i64 5) ∧ Below w.heap.size w w' := by
  have cp := place_long g k w hk
  clear H hk
  go_enter Try.func17, Try.ntmps17
  go_wp2_with fail
  refine cp.mono ?_; rintro e w1 ⟨rfl, hb1⟩
  go_wp2
  go_ret
  exact ⟨rfl, hb1⟩
theorem put_nil (k : ByteArray) (v : Int) (w : World) :
    Calls Try.prog 17 #[.pointer none, .string k, .int .i64 v] w fun e w' => e = .returned (.int .i64 1) ∧ Below w.heap.size w w' := by
  go_enter Try.func17, Try.ntmps17
  go_wp2_with fail
  refine (place_nil k w).mono ?_; rintro e w1 ⟨rfl, hb1⟩
  go_wp2
  go_ret
  exact ⟨rfl, hb1⟩
theorem put_full (g h N K : Nat) (c : Nat → Sl) (k : ByteArray) (v : Int) (F r : Nat) (w : World) (H : LieT w g h N K c) (hk : k.size ≤ 64) (hf : findF c N k F (ow N k) = some (r, false)) (hF : fullP N K = true) :
    Calls Try.prog 17 #[ptrV g, .string k, .int .i64 v] w fun e w' => e = .returned (.int .i64 7) ∧ Below w.heap.size w w' := by
  have cp := place_full g h N K c k F r w H hk hf hF
  clear H hk hf hF
  go_enter Try.func17, Try.ntmps17
  go_wp2_with fail
  refine cp.mono ?_; rintro e w1 ⟨rfl, hb1⟩
  go_wp2
  go_ret
  exact ⟨rfl, hb1⟩
theorem full_le {N K : Nat} (hN : 2 ≤ N ∧ N ≤ 256) (h : fullP N K = false) : K + 1 < N := by
  have : ¬ N * 3 / 4 ≤ K := by simpa [fullP] using h
  omega
theorem put_ok (g h N K : Nat) (c : Nat → Sl) (k : ByteArray) (v : Int) (F r : Nat) (b : Bool) (w : World) (H : LieT w g h N K c) (hk : k.size ≤ 64) (hf : findF c N k F (ow N k) = some (r, b)) (hF : b = true ∨ fullP N K = false) :
    Calls Try.prog 17 #[ptrV g, .string k, .int .i64 v] w fun e w' => e = .returned (.int .i64 0) ∧ LieT w' g h N (setK c K r) (upd c r (some (k, v))) ∧ But2 w w' g h := by
  have cp := place_ok g h N K c k F r b w H hk hf hF
  have hr : r < N := (findF_at _ _ (ow_lt (by have := H.hN; omega) k) hf).1
  have hb := findF_b _ _ hf
  have cs := fun W (hB : Below w.heap.size w W) => set_any g h N K c r k v W (H.call hB) hr hk (by
    rcases hF with h | h
    · exact .inl (by rw [← hb]; exact h)
    · exact .inr (by have := full_le H.hN h; have := H.hN; omega))
  clear H hk hf hF hb hr
  go_enter Try.func17, Try.ntmps17
  go_wp2_with fail
  refine cp.mono ?_; rintro e w1 ⟨rfl, hb1⟩
  go_wp2_with fail
  refine (cs _ hb1).mono ?_; rintro e w2 ⟨rfl, H2, hB2⟩
  have H2 := Lib.hid H2
  go_wp2
  go_ret
  exact ⟨rfl, H2.out, (But2.below g h hb1).trans hB2⟩

def addP (x n : Int) : Int := heldP (heldP x + heldP n)
theorem add_long (g h N K : Nat) (c : Nat → Sl) (k : ByteArray) (v : Int) (w : World) (H : LieT w g h N K c) (hk : 64 < k.size) :
    Calls Try.prog 20 #[ptrV g, .string k, .int .i64 v] w fun e w' => e = .returned (.tuple #[.int .i64 0, .int .i64 5]) ∧ Below w.heap.size w w' := by
  have cp := place_long g k w hk
  clear H hk
  go_enter Try.func20, Try.ntmps20
  go_wp2_with fail
  refine cp.mono ?_; rintro e w1 ⟨rfl, hb1⟩
  go_wp2
  go_ret2
  exact ⟨rfl, hb1⟩
theorem add_nil (k : ByteArray) (v : Int) (w : World) :
    Calls Try.prog 20 #[.pointer none, .string k, .int .i64 v] w fun e w' => e = .returned (.tuple #[.int .i64 0, .int .i64 1]) ∧ Below w.heap.size w w' := by
  go_enter Try.func20, Try.ntmps20
  go_wp2_with fail
  refine (place_nil k w).mono ?_; rintro e w1 ⟨rfl, hb1⟩
  go_wp2
  go_ret2
  exact ⟨rfl, hb1⟩
theorem add_full (g h N K : Nat) (c : Nat → Sl) (k : ByteArray) (v : Int) (F r : Nat) (w : World) (H : LieT w g h N K c) (hk : k.size ≤ 64) (hf : findF c N k F (ow N k) = some (r, false)) (hF : fullP N K = true) :
    Calls Try.prog 20 #[ptrV g, .string k, .int .i64 v] w fun e w' => e = .returned (.tuple #[.int .i64 0, .int .i64 7]) ∧ Below w.heap.size w w' := by
  have cp := place_full g h N K c k F r w H hk hf hF
  clear H hk hf hF
  go_enter Try.func20, Try.ntmps20
  go_wp2_with fail
  refine cp.mono ?_; rintro e w1 ⟨rfl, hb1⟩
  go_wp2
  go_ret2
  exact ⟨rfl, hb1⟩
theorem add_ok (g h N K : Nat) (c : Nat → Sl) (k : ByteArray) (v : Int) (F r : Nat) (b : Bool) (w : World) (H : LieT w g h N K c) (hk : k.size ≤ 64) (hf : findF c N k F (ow N k) = some (r, b)) (hF : b = true ∨ fullP N K = false) :
    Calls Try.prog 20 #[ptrV g, .string k, .int .i64 v] w fun e w' => e = .returned (.tuple #[.int .i64 (addP (valO (c r)) v), .int .i64 0]) ∧ LieT w' g h N (setK c K r) (upd c r (some (k, addP (valO (c r)) v))) ∧ But2 w w' g h := by
  have cp := place_ok g h N K c k F r b w H hk hf hF
  have hr : r < N := (findF_at _ _ (ow_lt (by have := H.hN; omega) k) hf).1
  have hr' : (r : Int) < N := by omega
  have hb := findF_b _ _ hf
  have cs := fun W (hB : Below w.heap.size w W) => set_any g h N K c r k (addP (valO (c r)) v) W (H.call hB) hr hk (by
    rcases hF with h | h
    · exact .inl (by rw [← hb]; exact h)
    · exact .inr (by have := full_le H.hN h; have := H.hN; omega))
  have HC := Lib.hid H
  have c1 := fun W => held_any (valO (c r)) W
  have c2 := fun W => held_any v W
  have c3 := fun W => held_any (heldP (valO (c r)) + heldP v) W
  have b1 := heldP_bd (valO (c r))
  have b2 := heldP_bd v
  have hw : IntKind.i64.wrap (heldP (valO (c r)) + heldP v) = heldP (valO (c r)) + heldP v := IntWalk.i64_in _ (by omega)
  have hA : heldP (heldP (valO (c r)) + heldP v) = addP (valO (c r)) v := rfl
  rw [hA] at c3
  clear H hk hf hF hb b1 b2 hA
  go_enter Try.func20, Try.ntmps20
  go_wp2_with fail
  refine cp.mono ?_; rintro e w1 ⟨rfl, hb1⟩
  have H1 := HC.out.call hb1
  have c0 := H1.c0
  have k1 := H1.k1 r hr
  clear H1 cp
  go_wp2_with fail
  refine (c1 _).mono ?_; rintro e w2 ⟨rfl, rfl⟩
  go_wp2_with fail
  refine (c2 _).mono ?_; rintro e w2 ⟨rfl, rfl⟩
  go_wp2_with fail
  refine (c3 _).mono ?_; rintro e w2 ⟨rfl, rfl⟩
  go_wp2_with fail
  refine (cs _ hb1).mono ?_; rintro e w2 ⟨rfl, H2, hB2⟩
  have H2 := Lib.hid H2
  clear cs c0 k1
  go_wp2
  go_ret2
  exact ⟨rfl, H2.out, (But2.below g h hb1).trans hB2⟩
end Go.Proofs.Ytaenbnohkhmnbaa
