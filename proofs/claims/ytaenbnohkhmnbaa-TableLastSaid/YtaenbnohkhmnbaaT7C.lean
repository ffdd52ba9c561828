/- Layer 7, the program's: contracts: Where, place, Get, set, held. -/
import Derived.Test.YtaenbnohkhmnbaaT7B
namespace Go.Proofs.Ytaenbnohkhmnbaa
open Go.RowKit
set_option linter.unusedVariables false
set_option linter.unusedSimpArgs false

theorem findF_b {c : Nat → Sl} {N : Nat} {k : ByteArray} {r : Nat} {b : Bool} : ∀ (f a : Nat), findF c N k f a = some (r, b) → b = (c r).isSome
  | 0, _, h => by simp [findF] at h
  | f + 1, a, h => by
    cases hc : c a with
    | none => have := findF_stop h hc; cases this; rw [hc]; rfl
    | some e =>
      by_cases he : e.1 = k
      · have := findF_hit h hc he; cases this; rw [hc]; rfl
      · exact findF_b f (nxt N a) (findF_on h hc he)
def whereP (r : Nat) (b : Bool) : Int := if b then r else -1

theorem where_any (g h N K : Nat) (c : Nat → Sl) (k : ByteArray) (F r : Nat) (b : Bool) (w : World) (H : LieT w g h N K c) (hk : k.size ≤ maxLen) (hf : findF c N k F (ow N k) = some (r, b)) :
    Calls Try.prog 11 #[ptrV g, .string k] w fun e w' => e = .returned (.int .i64 (whereP r b)) ∧ Below w.heap.size w w' := by
  have cf := find_any g h N K c k F r b w H hk hf
  clear H hf hk
  cases b
  · go_enter Try.func11, Try.ntmps11
    go_wp2_with fail
    refine cf.mono ?_; rintro e w1 ⟨rfl, hb1⟩
    go_wp2
    go_ret
    exact ⟨rfl, hb1⟩
  · go_enter Try.func11, Try.ntmps11
    go_wp2_with fail
    refine cf.mono ?_; rintro e w1 ⟨rfl, hb1⟩
    go_wp2
    go_ret
    exact ⟨rfl, hb1⟩
theorem where_nil (k : ByteArray) (w : World) :
    Calls Try.prog 11 #[.pointer none, .string k] w fun e w' => e = .returned (.int .i64 (-1)) ∧ Below w.heap.size w w' := by
  go_enter Try.func11, Try.ntmps11
  go_wp2
  go_ret
  exact ⟨rfl, by (repeat (first | (with_reducible exact Below.refl _ _) | ((with_reducible refine below_alloc ?_ ?_ _); · (first | omega | (simp; done) | (simp; omega))) | ((with_reducible refine below_setCell ?_ ?_ _); · (first | omega | (simp; done) | (simp; omega))) | (with_reducible refine Below.drew ?_) | (with_reducible refine below_drewN ?_ _) | ((with_reducible refine below_call (by assumption) ?_ ?_); · (first | omega | (simp; done) | (simp; omega)))))⟩
theorem place_nil (k : ByteArray) (w : World) :
    Calls Try.prog 31 #[.pointer none, .string k] w fun e w' => e = .returned (.tuple #[.int .i64 0, .int .i64 1]) ∧ Below w.heap.size w w' := by
  go_enter Try.func31, Try.ntmps31
  go_wp2
  go_ret2
  exact ⟨rfl, by (repeat (first | (with_reducible exact Below.refl _ _) | ((with_reducible refine below_alloc ?_ ?_ _); · (first | omega | (simp; done) | (simp; omega))) | ((with_reducible refine below_setCell ?_ ?_ _); · (first | omega | (simp; done) | (simp; omega))) | (with_reducible refine Below.drew ?_) | (with_reducible refine below_drewN ?_ _) | ((with_reducible refine below_call (by assumption) ?_ ?_); · (first | omega | (simp; done) | (simp; omega)))))⟩
theorem place_long (g : Nat) (k : ByteArray) (w : World) (hk : 64 < k.size) :
    Calls Try.prog 31 #[ptrV g, .string k] w fun e w' => e = .returned (.tuple #[.int .i64 0, .int .i64 5]) ∧ Below w.heap.size w w' := by
  have hk' : (64 : Int) < k.size := by omega
  go_enter Try.func31, Try.ntmps31
  go_wp2
  go_ret2
  exact ⟨rfl, by (repeat (first | (with_reducible exact Below.refl _ _) | ((with_reducible refine below_alloc ?_ ?_ _); · (first | omega | (simp; done) | (simp; omega))) | ((with_reducible refine below_setCell ?_ ?_ _); · (first | omega | (simp; done) | (simp; omega))) | (with_reducible refine Below.drew ?_) | (with_reducible refine below_drewN ?_ _) | ((with_reducible refine below_call (by assumption) ?_ ?_); · (first | omega | (simp; done) | (simp; omega)))))⟩
theorem place_full (g h N K : Nat) (c : Nat → Sl) (k : ByteArray) (F r : Nat) (w : World) (H : LieT w g h N K c) (hk : k.size ≤ 64) (hf : findF c N k F (ow N k) = some (r, false)) (hF : fullP N K = true) :
    Calls Try.prog 31 #[ptrV g, .string k] w fun e w' => e = .returned (.tuple #[.int .i64 0, .int .i64 7]) ∧ Below w.heap.size w w' := by
  have cf := find_any g h N K c k F r false w H (by unfold maxLen; omega) hf
  have cF := fun W (hb : Below w.heap.size w W) => full_any g h N K c W (H.call hb)
  rw [hF] at cF
  have hk' : (k.size : Int) ≤ 64 := by omega
  clear H hf hF hk
  go_enter Try.func31, Try.ntmps31
  go_wp2_with fail
  refine cf.mono ?_; rintro e w1 ⟨rfl, hb1⟩
  have hz1 := hb1.size
  go_wp2_with fail
  refine (cF _ hb1).mono ?_; rintro e w2 ⟨rfl, hb2⟩
  go_wp2
  go_ret2
  exact ⟨rfl, by (repeat (first | (with_reducible exact Below.refl _ _) | ((with_reducible refine below_alloc ?_ ?_ _); · (first | omega | (simp; done) | (simp; omega))) | ((with_reducible refine below_setCell ?_ ?_ _); · (first | omega | (simp; done) | (simp; omega))) | (with_reducible refine Below.drew ?_) | (with_reducible refine below_drewN ?_ _) | ((with_reducible refine below_call (by assumption) ?_ ?_); · (first | omega | (simp; done) | (simp; omega)))))⟩
theorem place_there (g h N K : Nat) (c : Nat → Sl) (k : ByteArray) (F r : Nat) (w : World) (H : LieT w g h N K c) (hk : k.size ≤ 64) (hf : findF c N k F (ow N k) = some (r, true)) :
    Calls Try.prog 31 #[ptrV g, .string k] w fun e w' => e = .returned (.tuple #[.int .i64 r, .int .i64 0]) ∧ Below w.heap.size w w' := by
  have cf := find_any g h N K c k F r true w H (by unfold maxLen; omega) hf
  have hk' : (k.size : Int) ≤ 64 := by omega
  clear H hf hk
  go_enter Try.func31, Try.ntmps31
  go_wp2_with fail
  refine cf.mono ?_; rintro e w1 ⟨rfl, hb1⟩
  go_wp2
  go_ret2
  exact ⟨rfl, hb1⟩
theorem place_free (g h N K : Nat) (c : Nat → Sl) (k : ByteArray) (F r : Nat) (w : World) (H : LieT w g h N K c) (hk : k.size ≤ 64) (hf : findF c N k F (ow N k) = some (r, false)) (hF : fullP N K = false) :
    Calls Try.prog 31 #[ptrV g, .string k] w fun e w' => e = .returned (.tuple #[.int .i64 r, .int .i64 0]) ∧ Below w.heap.size w w' := by
  have cf := find_any g h N K c k F r false w H (by unfold maxLen; omega) hf
  have cF := fun W (hb : Below w.heap.size w W) => full_any g h N K c W (H.call hb)
  rw [hF] at cF
  have hk' : (k.size : Int) ≤ 64 := by omega
  clear H hf hF hk
  go_enter Try.func31, Try.ntmps31
  go_wp2_with fail
  refine cf.mono ?_; rintro e w1 ⟨rfl, hb1⟩
  have hz1 := hb1.size
  go_wp2_with fail
  refine (cF _ hb1).mono ?_; rintro e w2 ⟨rfl, hb2⟩
  go_wp2
  go_ret2
  exact ⟨rfl, by (repeat (first | (with_reducible exact Below.refl _ _) | ((with_reducible refine below_alloc ?_ ?_ _); · (first | omega | (simp; done) | (simp; omega))) | ((with_reducible refine below_setCell ?_ ?_ _); · (first | omega | (simp; done) | (simp; omega))) | (with_reducible refine Below.drew ?_) | (with_reducible refine below_drewN ?_ _) | ((with_reducible refine below_call (by assumption) ?_ ?_); · (first | omega | (simp; done) | (simp; omega)))))⟩
theorem place_ok (g h N K : Nat) (c : Nat → Sl) (k : ByteArray) (F r : Nat) (b : Bool) (w : World) (H : LieT w g h N K c) (hk : k.size ≤ 64) (hf : findF c N k F (ow N k) = some (r, b)) (hF : b = true ∨ fullP N K = false) :
    Calls Try.prog 31 #[ptrV g, .string k] w fun e w' => e = .returned (.tuple #[.int .i64 r, .int .i64 0]) ∧ Below w.heap.size w w' := by
  cases b
  · exact place_free g h N K c k F r w H hk hf (by rcases hF with h | h; · cases h
                                                   · exact h)
  · exact place_there g h N K c k F r w H hk hf

/-- what is got -/
theorem get_yes (g h N K : Nat) (c : Nat → Sl) (k : ByteArray) (F r : Nat) (w : World) (H : LieT w g h N K c) (hk : k.size ≤ maxLen) (hf : findF c N k F (ow N k) = some (r, true)) :
    Calls Try.prog 18 #[ptrV g, .string k] w fun e w' => e = .returned (.tuple #[.int .i64 (valO (c r)), .bool true]) ∧ Below w.heap.size w w' := by
  have cw := where_any g h N K c k F r true w H hk hf
  have hr : r < N := (findF_at _ _ (ow_lt (by have := H.hN; omega) k) hf).1
  have hr' : (r : Int) < N := by omega
  have HC := Lib.hid H
  clear H hf hk
  go_enter Try.func18, Try.ntmps18
  go_wp2_with fail
  refine cw.mono ?_; rintro e w1 ⟨rfl, hb1⟩
  have H1 := HC.out.call hb1
  have c0 := H1.c0
  have k1 := H1.k1 r hr
  have hw : whereP r true = r := rfl
  rw [hw]
  clear H1 hw
  go_wp2
  go_ret2
  exact ⟨rfl, hb1⟩
theorem get_no (g h N K : Nat) (c : Nat → Sl) (k : ByteArray) (F r : Nat) (w : World) (H : LieT w g h N K c) (hk : k.size ≤ maxLen) (hf : findF c N k F (ow N k) = some (r, false)) :
    Calls Try.prog 18 #[ptrV g, .string k] w fun e w' => e = .returned (.tuple #[.int .i64 0, .bool false]) ∧ Below w.heap.size w w' := by
  have cw := where_any g h N K c k F r false w H hk hf
  clear H hf hk
  go_enter Try.func18, Try.ntmps18
  go_wp2_with fail
  refine cw.mono ?_; rintro e w1 ⟨rfl, hb1⟩
  have hw : whereP r false = -1 := rfl
  rw [hw]
  clear hw
  go_wp2
  go_ret2
  exact ⟨rfl, hb1⟩
theorem get_nil (k : ByteArray) (w : World) :
    Calls Try.prog 18 #[.pointer none, .string k] w fun e w' => e = .returned (.tuple #[.int .i64 0, .bool false]) ∧ Below w.heap.size w w' := by
  go_enter Try.func18, Try.ntmps18
  go_wp2_with fail
  refine (where_nil k _).mono ?_; rintro e w1 ⟨rfl, hb1⟩
  go_wp2
  go_ret2
  exact ⟨rfl, hb1⟩

theorem set_old (g h N K : Nat) (c : Nat → Sl) (a : Nat) (k : ByteArray) (v : Int) (w : World) (H : LieT w g h N K c) (ha : a < N) (hk : k.size ≤ 64) (hc : (c a).isSome = true) :
    Calls Try.prog 32 #[ptrV g, .int .i64 a, .string k, .int .i64 v] w fun e w' => e = .returned (.tuple #[]) ∧ LieT w' g h N K (upd c a (some (k, v))) ∧ But2 w w' g h := by
  have ha' : (a : Int) < N := by omega
  have HF := Lib.hid (H.setS a (some (k, v)) ha hk)
  have c0 := H.c0
  have k0 := H.k0 a ha
  have k1 := H.k1 a ha
  have k2 := H.k2 a ha
  rw [hc] at k2
  have fs := H.fs
  clear H hc
  go_enter Try.func32, Try.ntmps32
  go_wp2
  go_end0
  exact ⟨rfl, HF.out, (((But2.refl w g h).set _ (.inr rfl)).set _ (.inr rfl)).set _ (.inr rfl)⟩
theorem set_new (g h N K : Nat) (c : Nat → Sl) (a : Nat) (k : ByteArray) (v : Int) (w : World) (H : LieT w g h N K c) (ha : a < N) (hk : k.size ≤ 64) (hc : (c a).isSome = false) (hK : K + 1 ≤ 256) :
    Calls Try.prog 32 #[ptrV g, .int .i64 a, .string k, .int .i64 v] w fun e w' => e = .returned (.tuple #[]) ∧ LieT w' g h N (K + 1) (upd c a (some (k, v))) ∧ But2 w w' g h := by
  have ha' : (a : Int) < N := by omega
  have HF := Lib.hid ((H.setK (K + 1) hK).setS a (some (k, v)) ha hk)
  have hne := H.ne
  have c0 := H.c0
  have c1 := H.c1
  have fr := H.fr
  have k0 := H.k0 a ha
  have k1 := H.k1 a ha
  have k2 := H.k2 a ha
  rw [hc] at k2
  have fs := H.fs
  have hw : IntKind.i64.wrap ((K : Int) + 1) = ((K + 1 : Nat) : Int) := by rw [IntWalk.i64_in _ (by omega)]; omega
  clear H hc hK
  go_enter Try.func32, Try.ntmps32
  go_wp2
  go_end0
  exact ⟨rfl, HF.out, ((((But2.refl w g h).set _ (.inl rfl)).set _ (.inr rfl)).set _ (.inr rfl)).set _ (.inr rfl)⟩

/-- a number that is held -/
def heldP (n : Int) : Int := min (max n (-1099511627776)) 1099511627776
theorem heldP_bd (n : Int) : -1099511627776 ≤ heldP n ∧ heldP n ≤ 1099511627776 := by unfold heldP; omega
theorem held_any (n : Int) (w : World) :
    Calls Try.prog 34 #[.int .i64 n] w fun e w' => e = .returned (.int .i64 (heldP n)) ∧ w' = w := by
  go_enter Try.func34, Try.ntmps34
  go_wp2
  all_goals
    go_ret
    refine ⟨ret_int ?_, rfl⟩
    unfold heldP
    (repeat' split at *) <;> omega
end Go.Proofs.Ytaenbnohkhmnbaa
