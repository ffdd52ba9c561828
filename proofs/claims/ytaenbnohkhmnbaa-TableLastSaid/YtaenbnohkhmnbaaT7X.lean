/- Layer 7: contracts of the calls on a good table; of the law's do, few. -/
import Derived.Test.YtaenbnohkhmnbaaT7W
import Derived.Test.YtaenbnohkhmnbaaT7Q
namespace Go.Proofs.Ytaenbnohkhmnbaa
open Go.RowKit
set_option linter.unusedVariables false
set_option linter.unusedSimpArgs false

/-- a good table lies there, with other keys as they were -/
def Did (w w' : World) (g h N : Nat) (c : Nat → Sl) (key : ByteArray) : Prop :=
  ∃ c' K', LieT w' g h N K' c' ∧ Good N c' K' ∧ But2 w w' g h ∧ ∀ k' v', k' ≠ key → (Has N c' k' v' ↔ Has N c k' v')
theorem Did.same {w w' : World} {g h N K : Nat} {c : Nat → Sl} (key : ByteArray) (H : LieT w g h N K c) (G : Good N c K) (hb : Below w.heap.size w w') : Did w w' g h N c key :=
  ⟨c, K, H.call hb, G, But2.below g h hb, fun _ _ _ => Iff.rfl⟩

theorem put_g (g h N K : Nat) (c : Nat → Sl) (k : ByteArray) (v : Int) (w : World) (H : LieT w g h N K c) (G : Good N c K) :
    Calls Try.prog 17 #[ptrV g, .string k, .int .i64 v] w fun e w' => ∃ y, e = .returned (.int .i64 y) ∧ Did w w' g h N c k := by
  by_cases hk : 64 < k.size
  · refine (put_long g h N K c k v w H hk).mono ?_
    rintro e w' ⟨rfl, hb⟩
    exact ⟨_, rfl, Did.same k H G hb⟩
  obtain ⟨F, r, b, hf⟩ := G.find k
  by_cases hF : b = true ∨ fullP N K = false
  · refine (put_ok g h N K c k v F r b w H (by omega) hf hF).mono ?_
    rintro e w' ⟨rfl, H2, hB⟩
    obtain ⟨G2, -, hh⟩ := G.set v hf hF
    exact ⟨_, rfl, _, _, H2, G2, hB, hh⟩
  · have hb : b = false := by cases b <;> simp_all
    subst hb
    have hF2 : fullP N K = true := by cases h : fullP N K <;> simp_all
    refine (put_full g h N K c k v F r w H (by omega) hf hF2).mono ?_
    rintro e w' ⟨rfl, hb⟩
    exact ⟨_, rfl, Did.same k H G hb⟩
theorem put_is (g h N K : Nat) (c : Nat → Sl) (k : ByteArray) (v : Int) (w : World) (H : LieT w g h N K c) (G : Good N c K) (hk : k.size ≤ 64) (hF : (∃ x, Has N c k x) ∨ fullP N K = false) :
    Calls Try.prog 17 #[ptrV g, .string k, .int .i64 v] w fun e w' => e = .returned (.int .i64 0) ∧
      ∃ c' K', LieT w' g h N K' c' ∧ Good N c' K' ∧ But2 w w' g h ∧ Has N c' k v ∧ ∀ k' v', k' ≠ k → (Has N c' k' v' ↔ Has N c k' v') := by
  obtain ⟨F, r, b, hf⟩ := G.find k
  have hF' : b = true ∨ fullP N K = false := hF.imp (fun h => (G.find_has hf).2 h) id
  refine (put_ok g h N K c k v F r b w H hk hf hF').mono ?_
  rintro e w' ⟨rfl, H2, hB⟩
  obtain ⟨G2, h1, hh⟩ := G.set v hf hF'
  exact ⟨rfl, _, _, H2, G2, hB, h1, hh⟩
theorem add_g (g h N K : Nat) (c : Nat → Sl) (k : ByteArray) (v : Int) (w : World) (H : LieT w g h N K c) (G : Good N c K) :
    Calls Try.prog 20 #[ptrV g, .string k, .int .i64 v] w fun e w' => ∃ x y, e = .returned (.tuple #[.int .i64 x, .int .i64 y]) ∧ Did w w' g h N c k := by
  by_cases hk : 64 < k.size
  · refine (add_long g h N K c k v w H hk).mono ?_
    rintro e w' ⟨rfl, hb⟩
    exact ⟨_, _, rfl, Did.same k H G hb⟩
  obtain ⟨F, r, b, hf⟩ := G.find k
  by_cases hF : b = true ∨ fullP N K = false
  · refine (add_ok g h N K c k v F r b w H (by omega) hf hF).mono ?_
    rintro e w' ⟨rfl, H2, hB⟩
    obtain ⟨G2, -, hh⟩ := G.set (addP (valO (c r)) v) hf hF
    exact ⟨_, _, rfl, _, _, H2, G2, hB, hh⟩
  · have hb : b = false := by cases b <;> simp_all
    subst hb
    have hF2 : fullP N K = true := by cases h : fullP N K <;> simp_all
    refine (add_full g h N K c k v F r w H (by omega) hf hF2).mono ?_
    rintro e w' ⟨rfl, hb⟩
    exact ⟨_, _, rfl, Did.same k H G hb⟩
theorem del_g (g h N K : Nat) (c : Nat → Sl) (k : ByteArray) (w : World) (H : LieT w g h N K c) (G : Good N c K) (hk : k.size ≤ maxLen) :
    Calls Try.prog 19 #[ptrV g, .string k] w fun e w' => ∃ b, e = .returned (.bool b) ∧ Did w w' g h N c k := by
  obtain ⟨F, r, b, hf⟩ := G.find k
  cases b
  · refine (del_no g h N K c k F r w H hk hf).mono ?_
    rintro e w' ⟨rfl, hb⟩
    exact ⟨_, rfl, Did.same k H G hb⟩
  · obtain ⟨F2, c', g', e0, he, hc0, hK, hcl, G2, -, hh⟩ := G.del hf
    refine (del_yes g h N K c c' k F F2 r g' e0 w H hk hf he hc0 hcl hK).mono ?_
    rintro e w' ⟨rfl, H2, hB⟩
    exact ⟨_, rfl, _, _, H2, G2, hB, hh⟩
theorem del_has (g h N K : Nat) (c : Nat → Sl) (k : ByteArray) (v : Int) (w : World) (H : LieT w g h N K c) (G : Good N c K) (hk : k.size ≤ maxLen) (hh : Has N c k v) :
    Calls Try.prog 19 #[ptrV g, .string k] w fun e w' => e = .returned (.bool true) ∧ ∃ c' K', LieT w' g h N K' c' ∧ Good N c' K' ∧ But2 w w' g h ∧ ∀ v, ¬ Has N c' k v := by
  obtain ⟨F, r, b, hf⟩ := G.find k
  obtain rfl := (G.find_val hf hh).1
  obtain ⟨F2, c', g', e0, he, hc0, hK, hcl, G2, hn, -⟩ := G.del hf
  refine (del_yes g h N K c c' k F F2 r g' e0 w H hk hf he hc0 hcl hK).mono ?_
  rintro e w' ⟨rfl, H2, hB⟩
  exact ⟨rfl, _, _, H2, G2, hB, hn⟩
theorem get_g (g h N K : Nat) (c : Nat → Sl) (k : ByteArray) (w : World) (H : LieT w g h N K c) (G : Good N c K) (hk : k.size ≤ maxLen) :
    Calls Try.prog 18 #[ptrV g, .string k] w fun e w' => ∃ x b, e = .returned (.tuple #[.int .i64 x, .bool b]) ∧ Below w.heap.size w w' := by
  obtain ⟨F, r, b, hf⟩ := G.find k
  cases b
  · refine (get_no g h N K c k F r w H hk hf).mono ?_
    rintro e w' ⟨rfl, hb⟩
    exact ⟨_, _, rfl, hb⟩
  · refine (get_yes g h N K c k F r w H hk hf).mono ?_
    rintro e w' ⟨rfl, hb⟩
    exact ⟨_, _, rfl, hb⟩
theorem get_has (g h N K : Nat) (c : Nat → Sl) (k : ByteArray) (v : Int) (w : World) (H : LieT w g h N K c) (G : Good N c K) (hk : k.size ≤ maxLen) (hh : Has N c k v) :
    Calls Try.prog 18 #[ptrV g, .string k] w fun e w' => e = .returned (.tuple #[.int .i64 v, .bool true]) ∧ Below w.heap.size w w' := by
  obtain ⟨F, r, b, hf⟩ := G.find k
  obtain ⟨rfl, hv⟩ := G.find_val hf hh
  have := get_yes g h N K c k F r w H hk hf
  rw [hv] at this
  exact this
theorem get_hasnt (g h N K : Nat) (c : Nat → Sl) (k : ByteArray) (w : World) (H : LieT w g h N K c) (G : Good N c K) (hk : k.size ≤ maxLen) (hh : ∀ v, ¬ Has N c k v) :
    Calls Try.prog 18 #[ptrV g, .string k] w fun e w' => e = .returned (.tuple #[.int .i64 0, .bool false]) ∧ Below w.heap.size w w' := by
  obtain ⟨F, r, b, hf⟩ := G.find k
  have hb : b = false := by
    cases b with
    | false => rfl
    | true => obtain ⟨v, hv⟩ := (G.find_has hf).1 rfl; exact absurd hv (hh v)
  subst hb
  exact get_no g h N K c k F r w H hk hf
theorem where_hasnt (g h N K : Nat) (c : Nat → Sl) (k : ByteArray) (w : World) (H : LieT w g h N K c) (G : Good N c K) (hk : k.size ≤ maxLen) (hh : ∀ v, ¬ Has N c k v) :
    Calls Try.prog 11 #[ptrV g, .string k] w fun e w' => e = .returned (.int .i64 (-1)) ∧ Below w.heap.size w w' := by
  obtain ⟨F, r, b, hf⟩ := G.find k
  have hb : b = false := by
    cases b with
    | false => rfl
    | true => obtain ⟨v, hv⟩ := (G.find_has hf).1 rfl; exact absurd hv (hh v)
  subst hb
  exact where_any g h N K c k F r false w H hk hf
theorem where_at (g h N K : Nat) (c : Nat → Sl) (k : ByteArray) (v : Int) (i : Nat) (w : World) (H : LieT w g h N K c) (G : Good N c K) (hk : k.size ≤ maxLen) (hi : i < N) (hc : c i = some (k, v)) :
    Calls Try.prog 11 #[ptrV g, .string k] w fun e w' => e = .returned (.int .i64 i) ∧ Below w.heap.size w w' := by
  obtain ⟨F, r, b, hf⟩ := G.find k
  obtain ⟨rfl, rfl⟩ := G.find_in hi hc hf
  exact where_any g h N K c k F r true w H hk hf

abbrev actV (k : Int) (key : ByteArray) (n : Int) : Value := .agg #[.int .u8 k, .string key, .int .i64 n]
/-- what a call of do leaves: a good table, other keys as they were, unless all was taken out -/
def Done (w w' : World) (g h N : Nat) (c : Nat → Sl) (key : ByteArray) (q : Int) : Prop :=
  ∃ c' K', LieT w' g h N K' c' ∧ Good N c' K' ∧ But2 w w' g h ∧ (q ≠ 5 → ∀ k' v', k' ≠ key → (Has N c' k' v' ↔ Has N c k' v')) ∧ ∀ k' v', k' ≠ key → Has N c' k' v' → Has N c k' v'
theorem Did.done {w0 w w' : World} {g h N : Nat} {c : Nat → Sl} {key : ByteArray} (H : Did w w' g h N c key) (hb : Below w0.heap.size w0 w) (q : Int) : Done w0 w' g h N c key q := by
  obtain ⟨c', K', h1, h2, h3, h4⟩ := H
  exact ⟨c', K', h1, h2, (But2.below g h hb).trans h3, fun _ => h4, fun k' v' hk => (h4 k' v' hk).1⟩
theorem Done.call {w0 w w' : World} {g h N : Nat} {c : Nat → Sl} {key : ByteArray} {q : Int} (H : Done w0 w g h N c key q) (hb : Below w.heap.size w w') : Done w0 w' g h N c key q := by
  obtain ⟨c', K', h1, h2, h3, h4⟩ := H
  exact ⟨c', K', h1.call hb, h2, h3.call hb, h4⟩
set_option maxRecDepth 100000 in
set_option maxHeartbeats 4000000 in
theorem do_any (g h N K : Nat) (c : Nat → Sl) (k : Int) (key : ByteArray) (n : Int) (w : World) (H : LieT w g h N K c) (G : Good N c K) (hk : 0 ≤ k ∧ k ≤ 255) (hks : key.size ≤ maxLen) :
    Calls Try.prog 7 #[ptrV g, actV k key n] w fun e w' => ∃ x y, e = .returned (.tuple #[.int .i64 x, .int .i64 y]) ∧ Done w w' g h N c key (Int.tmod k 6) := by
  have HR := Lib.hid (fun W (hb : Below w.heap.size w W) => H.call hb)
  have HG := Lib.hid G
  clear H G
  obtain ⟨q, hq, hq0, hq6⟩ : ∃ q : Int, Int.tmod k 6 = q ∧ 0 ≤ q ∧ q ≤ 5 := ⟨_, rfl, by rw [Int.tmod_eq_emod_of_nonneg hk.1]; omega, by rw [Int.tmod_eq_emod_of_nonneg hk.1]; omega⟩
  have hq' : k % 6 = q := by rw [← hq, Int.tmod_eq_emod_of_nonneg hk.1]
  rw [hq]
  have cp := fun W (hb : Below w.heap.size w W) => put_g g h N K c key n W (HR.out W hb) HG.out
  have ca := fun W (hb : Below w.heap.size w W) => add_g g h N K c key n W (HR.out W hb) HG.out
  have cd := fun W (hb : Below w.heap.size w W) => del_g g h N K c key W (HR.out W hb) HG.out hks
  have cg := fun W (hb : Below w.heap.size w W) => get_g g h N K c key W (HR.out W hb) HG.out hks
  have cc := fun W (hb : Below w.heap.size w W) => clear_any g h N K c W (HR.out W hb)
  have hN := Lib.hid HG.out.hN
  clear hks hk
  have hqs : q = 2 ∨ q = 3 ∨ q = 4 ∨ q = 5 ∨ q = 0 ∨ q = 1 := by omega
  have F0 := fun o : Obj => (Below.refl w.heap.size w).alloc (Nat.le_refl _) o
  rcases hqs with rfl | rfl | rfl | rfl | rfl | rfl
  · go_enter Try.func7, Try.ntmps7
    go_wp2_with fail
    refine (cd _ (F0 _)).mono ?_; rintro e w2 ⟨b, rfl, hD⟩
    have HD := Lib.hid (hD.done (F0 _) 2)
    clear hD
    cases b
    · go_wp2
      go_ret2
      exact ⟨_, _, rfl, HD.out⟩
    · go_wp2
      go_ret2
      exact ⟨_, _, rfl, HD.out⟩
  · go_enter Try.func7, Try.ntmps7
    go_wp2_with fail
    refine (ca _ (F0 _)).mono ?_; rintro e w2 ⟨x, y, rfl, hD⟩
    have HD := Lib.hid (hD.done (F0 _) 3)
    clear hD
    go_wp2
    go_ret2
    exact ⟨_, _, rfl, HD.out⟩
  · go_enter Try.func7, Try.ntmps7
    go_wp2_with fail
    refine (cg _ (F0 _)).mono ?_; rintro e w2 ⟨x, b, rfl, hb2⟩
    have HD := Lib.hid ((Did.same key (HR.out _ (F0 _)) HG.out hb2).done (F0 _) 4)
    cases b
    · go_wp2
      go_ret2
      exact ⟨_, _, rfl, HD.out⟩
    · go_wp2
      go_ret2
      exact ⟨_, _, rfl, HD.out⟩
  · by_cases h7 : n = 7
    · subst h7
      go_enter Try.func7, Try.ntmps7
      go_wp2_with fail
      refine (cc _ (F0 _)).mono ?_; rintro e w2 ⟨rfl, H2, hB⟩
      have HD := Lib.hid (show Done w w2 g h N c key 5 from ⟨noSl, 0, H2, good_new N hN.out, (But2.below g h (F0 _)).trans hB, fun h => absurd rfl h, fun k' v' _ hh => absurd hh (has_new N k' v')⟩)
      clear H2 hB
      go_wp2
      go_ret2
      exact ⟨_, _, rfl, HD.out⟩
    · have h7' : (n == 7) = false := by simpa using h7
      clear h7
      go_enter Try.func7, Try.ntmps7
      go_wp2
      go_ret2
      exact ⟨_, _, rfl, (Did.same key (HR.out w (Below.refl _ _)) HG.out (F0 _)).done (Below.refl _ _) 5⟩
  · go_enter Try.func7, Try.ntmps7
    go_wp2_with fail
    refine (cp _ (F0 _)).mono ?_; rintro e w2 ⟨y, rfl, hD⟩
    have HD := Lib.hid (hD.done (F0 _) 0)
    clear hD
    go_wp2
    go_ret2
    exact ⟨_, _, rfl, HD.out⟩
  · go_enter Try.func7, Try.ntmps7
    go_wp2_with fail
    refine (cp _ (F0 _)).mono ?_; rintro e w2 ⟨y, rfl, hD⟩
    have HD := Lib.hid (hD.done (F0 _) 1)
    clear hD
    go_wp2
    go_ret2
    exact ⟨_, _, rfl, HD.out⟩
/-- what nobody answers -/
def nilE (q : Int) : Int := if q = 0 ∨ q = 1 ∨ q = 3 then 1 else 0
set_option maxRecDepth 100000 in
set_option maxHeartbeats 4000000 in
theorem do_nil (k : Int) (key : ByteArray) (n : Int) (w : World) (hk : 0 ≤ k ∧ k ≤ 255) :
    Calls Try.prog 7 #[.pointer none, actV k key n] w fun e w' => e = .returned (.tuple #[.int .i64 0, .int .i64 (nilE (Int.tmod k 6))]) ∧ Below w.heap.size w w' := by
  obtain ⟨q, hq, hq0, hq6⟩ : ∃ q : Int, Int.tmod k 6 = q ∧ 0 ≤ q ∧ q ≤ 5 := ⟨_, rfl, by rw [Int.tmod_eq_emod_of_nonneg hk.1]; omega, by rw [Int.tmod_eq_emod_of_nonneg hk.1]; omega⟩
  have hq' : k % 6 = q := by rw [← hq, Int.tmod_eq_emod_of_nonneg hk.1]
  rw [hq]
  have hqs : q = 2 ∨ q = 3 ∨ q = 4 ∨ q = 5 ∨ q = 0 ∨ q = 1 := by omega
  clear hk
  rcases hqs with rfl | rfl | rfl | rfl | rfl | rfl
  · go_enter Try.func7, Try.ntmps7
    go_wp2_with fail
    refine (del_nil key _).mono ?_; rintro e w2 ⟨rfl, hb2⟩
    go_wp2
    go_ret2
    exact ⟨rfl, by (repeat (first | (with_reducible exact Below.refl _ _) | ((with_reducible refine below_alloc ?_ ?_ _); · (first | omega | (simp; done) | (simp; omega))) | ((with_reducible refine below_setCell ?_ ?_ _); · (first | omega | (simp; done) | (simp; omega))) | (with_reducible refine Below.drew ?_) | (with_reducible refine below_drewN ?_ _) | ((with_reducible refine below_call (by assumption) ?_ ?_); · (first | omega | (simp; done) | (simp; omega)))))⟩
  · go_enter Try.func7, Try.ntmps7
    go_wp2_with fail
    refine (add_nil key n _).mono ?_; rintro e w2 ⟨rfl, hb2⟩
    go_wp2
    go_ret2
    exact ⟨rfl, by (repeat (first | (with_reducible exact Below.refl _ _) | ((with_reducible refine below_alloc ?_ ?_ _); · (first | omega | (simp; done) | (simp; omega))) | ((with_reducible refine below_setCell ?_ ?_ _); · (first | omega | (simp; done) | (simp; omega))) | (with_reducible refine Below.drew ?_) | (with_reducible refine below_drewN ?_ _) | ((with_reducible refine below_call (by assumption) ?_ ?_); · (first | omega | (simp; done) | (simp; omega)))))⟩
  · go_enter Try.func7, Try.ntmps7
    go_wp2_with fail
    refine (get_nil key _).mono ?_; rintro e w2 ⟨rfl, hb2⟩
    go_wp2
    go_ret2
    exact ⟨rfl, by (repeat (first | (with_reducible exact Below.refl _ _) | ((with_reducible refine below_alloc ?_ ?_ _); · (first | omega | (simp; done) | (simp; omega))) | ((with_reducible refine below_setCell ?_ ?_ _); · (first | omega | (simp; done) | (simp; omega))) | (with_reducible refine Below.drew ?_) | (with_reducible refine below_drewN ?_ _) | ((with_reducible refine below_call (by assumption) ?_ ?_); · (first | omega | (simp; done) | (simp; omega)))))⟩
  · by_cases h7 : n = 7
    · subst h7
      go_enter Try.func7, Try.ntmps7
      go_wp2_with fail
      refine (clear_nil _).mono ?_; rintro e w2 ⟨rfl, hb2⟩
      go_wp2
      go_ret2
      exact ⟨rfl, by (repeat (first | (with_reducible exact Below.refl _ _) | ((with_reducible refine below_alloc ?_ ?_ _); · (first | omega | (simp; done) | (simp; omega))) | ((with_reducible refine below_setCell ?_ ?_ _); · (first | omega | (simp; done) | (simp; omega))) | (with_reducible refine Below.drew ?_) | (with_reducible refine below_drewN ?_ _) | ((with_reducible refine below_call (by assumption) ?_ ?_); · (first | omega | (simp; done) | (simp; omega)))))⟩
    · have h7' : (n == 7) = false := by simpa using h7
      clear h7
      go_enter Try.func7, Try.ntmps7
      go_wp2
      go_ret2
      exact ⟨rfl, by (repeat (first | (with_reducible exact Below.refl _ _) | ((with_reducible refine below_alloc ?_ ?_ _); · (first | omega | (simp; done) | (simp; omega))) | ((with_reducible refine below_setCell ?_ ?_ _); · (first | omega | (simp; done) | (simp; omega))) | (with_reducible refine Below.drew ?_) | (with_reducible refine below_drewN ?_ _) | ((with_reducible refine below_call (by assumption) ?_ ?_); · (first | omega | (simp; done) | (simp; omega)))))⟩
  · go_enter Try.func7, Try.ntmps7
    go_wp2_with fail
    refine (put_nil key n _).mono ?_; rintro e w2 ⟨rfl, hb2⟩
    go_wp2
    go_ret2
    exact ⟨rfl, by (repeat (first | (with_reducible exact Below.refl _ _) | ((with_reducible refine below_alloc ?_ ?_ _); · (first | omega | (simp; done) | (simp; omega))) | ((with_reducible refine below_setCell ?_ ?_ _); · (first | omega | (simp; done) | (simp; omega))) | (with_reducible refine Below.drew ?_) | (with_reducible refine below_drewN ?_ _) | ((with_reducible refine below_call (by assumption) ?_ ?_); · (first | omega | (simp; done) | (simp; omega)))))⟩
  · go_enter Try.func7, Try.ntmps7
    go_wp2_with fail
    refine (put_nil key n _).mono ?_; rintro e w2 ⟨rfl, hb2⟩
    go_wp2
    go_ret2
    exact ⟨rfl, by (repeat (first | (with_reducible exact Below.refl _ _) | ((with_reducible refine below_alloc ?_ ?_ _); · (first | omega | (simp; done) | (simp; omega))) | ((with_reducible refine below_setCell ?_ ?_ _); · (first | omega | (simp; done) | (simp; omega))) | (with_reducible refine Below.drew ?_) | (with_reducible refine below_drewN ?_ _) | ((with_reducible refine below_call (by assumption) ?_ ?_); · (first | omega | (simp; done) | (simp; omega)))))⟩
end Go.Proofs.Ytaenbnohkhmnbaa
