/- Layer 5, the program's: contracts: Drop, Clear, Take, Last. -/
import Derived.Test.YtphgilgmoeliaaaF5C
namespace Go.Proofs.Ytphgilgmoeliaaa
open Go.RowKit
set_option linter.unusedVariables false
set_option linter.unusedSimpArgs false

theorem wiped_out {f N i n m : Nat} {c : Nat → Int} (hf : f < N) (hi : i < N) (hin : i + n ≤ N) (hm : m < N) (ho : m < i ∨ i + n ≤ m) :
    wiped (wiped c (cellN f N i) (min n (N - cellN f N i))) 0 (n - min n (N - cellN f N i)) (cellN f N m) = c (cellN f N m) := by
  unfold wiped
  rw [if_neg, if_neg]
  · unfold cellN; split <;> split <;> omega
  · unfold cellN; split <;> split <;> omega
/-- how many go -/
def dropK (L : List Int) (n : Int) : Nat := (min n L.length).toNat
theorem drop_ok {f N k : Nat} {c : Nat → Int} {L : List Int} (hf : f < N) (H : Holds5 f N c L) (hk1 : 1 ≤ k) (hkl : k ≤ L.length) (hl : L.length ≤ N) :
    Holds5 (cellN f N k) N (wiped (wiped c (cellN f N 0) (min k (N - cellN f N 0))) 0 (k - min k (N - cellN f N 0))) (L.drop k) := by
  intro i hi
  rw [List.length_drop] at hi
  have e : cellN (cellN f N k) N i = cellN f N (k + i) := by unfold cellN; split <;> split <;> split <;> omega
  rw [e, wiped_out hf (by omega) (by omega) (by omega) (.inr (by omega)), List.getElem_drop]
  exact H (k + i) (by omega)
theorem last_ok {f N k : Nat} {c : Nat → Int} {L : List Int} {x : Int} (hf : f < N) (H : Holds5 f N c (L ++ [x])) (hl : (L ++ [x]).length ≤ N) :
    Holds5 f N (wiped (wiped c (cellN f N L.length) (min 1 (N - cellN f N L.length))) 0 (1 - min 1 (N - cellN f N L.length))) L := by
  rw [List.length_append, List.length_singleton] at hl
  intro i hi
  rw [wiped_out hf (by omega) (by omega) (by omega) (.inl hi), ← H i (by rw [List.length_append]; omega), List.getElem_append_left hi]

set_option maxHeartbeats 1000000 in
theorem drop_any (g h N : Nat) (L : List Int) (n : Int) (w : World) (H : IsR w g h N L) :
    Calls Try.prog 24 #[ptrV g, .int .i64 n] w fun e w' => e = .returned (.int .i64 (dropK L n : Nat)) ∧ IsR w' g h N (L.drop (dropK L n)) ∧ But2 w w' g h := by
  obtain ⟨-, -, hlN, -, hN, -⟩ := H.lt
  have cl := len_any g h N L w H
  by_cases h1 : 1 ≤ n ∧ 1 ≤ L.length
  · obtain ⟨f, c, H, HO⟩ := H
    have HF := Lib.hid H.hf
    have HO := Lib.hid HO
    have HC := Lib.hid H
    by_cases hle : n ≤ L.length
    · obtain ⟨k, rfl⟩ : ∃ k : Nat, n = k := ⟨n.toNat, by omega⟩
      have hK1 : 1 ≤ k := by omega
      have hKl : k ≤ L.length := by omega
      have hdk : Hid (dropK L k = k) := Lib.hid (by unfold dropK; omega)
      have cw := fun W (hL : Lie W g h N f L.length c) => wipe_any g h N f L.length c 0 k W hL (by omega) (by omega)
      have hk1' : ¬ ((k : Int) < 1) := by omega
      clear h1 H
      go_enter Try.func24, Try.ntmps24
      go_wp2_with fail
      refine cl.mono ?_; rintro e w1 ⟨rfl, hb1⟩
      have hz1 := hb1.size
      have HC1 := HC.out.call hb1
      go_wp2_with fail
      refine (cw _ HC1).mono ?_; rintro e w2 ⟨rfl, H2, hB2⟩
      have cc := cell_any g h N f L.length _ k w2 H2 (by omega)
      have hz2 := hB2.size
      go_wp2_with fail
      refine cc.mono ?_; rintro e w3 ⟨rfl, hb3⟩
      clear cc
      have H3 := H2.call hb3
      have hlt := cellN_lt H3.hf (show k ≤ N by omega)
      have fr := H3.fr
      have d1 := H3.c1
      have H4 := H3.setF (cellN f N k) hlt
      have e2 := H4.c2
      have H5 := Lib.hid (H4.setK (L.length - k) (by omega))
      clear H2 H3 H4 HC1
      have HOK := Lib.hid (drop_ok HF.out HO.out hK1 hKl hlN)
      have hsub : IntKind.i64.wrap ((L.length : Int) - k) = ((L.length - k : Nat) : Int) := by rw [IntWalk.i64_in _ (by omega)]; omega
      go_wp2
      go_ret
      rw [hdk.out]
      refine ⟨rfl, ⟨_, _, ?_, HOK.out⟩, (((((But2.below g h hb1).trans hB2).call hb3).set _ (.inl rfl)).set _ (.inl rfl))⟩
      rw [List.length_drop]
      first | exact H5.out | simpa using H5.out
    · have hK1 : 1 ≤ L.length := by omega
      have hKl : L.length ≤ L.length := by omega
      have hdk : Hid (dropK L n = L.length) := Lib.hid (by unfold dropK; omega)
      have cw := fun W (hL : Lie W g h N f L.length c) => wipe_any g h N f L.length c 0 L.length W hL (by omega) (by omega)
      have hk1' : ¬ ((L.length : Int) < 1) := by omega
      clear h1 H
      go_enter Try.func24, Try.ntmps24
      go_wp2_with fail
      refine cl.mono ?_; rintro e w1 ⟨rfl, hb1⟩
      have hz1 := hb1.size
      have HC1 := HC.out.call hb1
      go_wp2_with fail
      refine (cw _ HC1).mono ?_; rintro e w2 ⟨rfl, H2, hB2⟩
      have cc := cell_any g h N f L.length _ L.length w2 H2 (by omega)
      have hz2 := hB2.size
      go_wp2_with fail
      refine cc.mono ?_; rintro e w3 ⟨rfl, hb3⟩
      clear cc
      have H3 := H2.call hb3
      have hlt := cellN_lt H3.hf (show L.length ≤ N by omega)
      have fr := H3.fr
      have d1 := H3.c1
      have H4 := H3.setF (cellN f N L.length) hlt
      have e2 := H4.c2
      have H5 := Lib.hid (H4.setK (L.length - L.length) (by omega))
      clear H2 H3 H4 HC1
      have HOK := Lib.hid (drop_ok HF.out HO.out hK1 hKl hlN)
      have hsub : IntKind.i64.wrap ((L.length : Int) - L.length) = ((L.length - L.length : Nat) : Int) := by rw [IntWalk.i64_in _ (by omega)]; omega
      go_wp2
      go_ret
      rw [hdk.out]
      refine ⟨rfl, ⟨_, _, ?_, HOK.out⟩, (((((But2.below g h hb1).trans hB2).call hb3).set _ (.inl rfl)).set _ (.inl rfl))⟩
      rw [List.length_drop]
      first | exact H5.out | simpa using H5.out
  · have hdk : Hid (dropK L n = 0) := Lib.hid (by unfold dropK; omega)
    have HR := Lib.hid H
    clear H
    by_cases hle : n ≤ L.length
    · have h2 : n < 1 := by omega
      clear h1
      go_enter Try.func24, Try.ntmps24
      go_wp2_with fail
      refine cl.mono ?_; rintro e w1 ⟨rfl, hb1⟩
      go_wp2
      go_ret
      rw [hdk.out]
      exact ⟨rfl, HR.out.call hb1, But2.below g h hb1⟩
    · have h2 : (L.length : Int) < 1 := by omega
      clear h1
      go_enter Try.func24, Try.ntmps24
      go_wp2_with fail
      refine cl.mono ?_; rintro e w1 ⟨rfl, hb1⟩
      go_wp2
      go_ret
      rw [hdk.out]
      exact ⟨rfl, HR.out.call hb1, But2.below g h hb1⟩
theorem drop_nil (n : Int) (w : World) :
    Calls Try.prog 24 #[.pointer none, .int .i64 n] w fun e w' => e = .returned (.int .i64 0) ∧ Below w.heap.size w w' := by
  by_cases hle : n ≤ 0
  · have h2 : n < 1 := by omega
    go_enter Try.func24, Try.ntmps24
    go_wp2_with fail
    refine (len_nil _).mono ?_; rintro e w1 ⟨rfl, hb1⟩
    go_wp2
    go_ret
    exact ⟨rfl, by (repeat (first | (with_reducible exact Below.refl _ _) | ((with_reducible refine below_alloc ?_ ?_ _); · (first | omega | (simp; done) | (simp; omega))) | ((with_reducible refine below_setCell ?_ ?_ _); · (first | omega | (simp; done) | (simp; omega))) | (with_reducible refine Below.drew ?_) | (with_reducible refine below_drewN ?_ _) | ((with_reducible refine below_call (by assumption) ?_ ?_); · (first | omega | (simp; done) | (simp; omega)))))⟩
  · go_enter Try.func24, Try.ntmps24
    go_wp2_with fail
    refine (len_nil _).mono ?_; rintro e w1 ⟨rfl, hb1⟩
    go_wp2
    go_ret
    exact ⟨rfl, by (repeat (first | (with_reducible exact Below.refl _ _) | ((with_reducible refine below_alloc ?_ ?_ _); · (first | omega | (simp; done) | (simp; omega))) | ((with_reducible refine below_setCell ?_ ?_ _); · (first | omega | (simp; done) | (simp; omega))) | (with_reducible refine Below.drew ?_) | (with_reducible refine below_drewN ?_ _) | ((with_reducible refine below_call (by assumption) ?_ ?_); · (first | omega | (simp; done) | (simp; omega)))))⟩

theorem clear_any (g h N : Nat) (L : List Int) (w : World) (H : IsR w g h N L) :
    Calls Try.prog 25 #[ptrV g] w fun e w' => e = .returned (.tuple #[]) ∧ IsR w' g h N [] ∧ But2 w w' g h := by
  have cl := len_any g h N L w H
  have cd := fun W (hb : Below w.heap.size w W) => drop_any g h N L L.length W (H.call hb)
  have hd : Hid (L.drop (dropK L L.length) = []) := Lib.hid (by unfold dropK; simp)
  clear H
  go_enter Try.func25, Try.ntmps25
  go_wp2_with fail
  refine cl.mono ?_; rintro e w1 ⟨rfl, hb1⟩
  go_wp2_with fail
  refine (cd _ hb1).mono ?_; rintro e w2 ⟨rfl, H2, hB2⟩
  rw [hd.out] at H2
  have H2 := Lib.hid H2
  go_wp2
  go_end0
  exact ⟨rfl, H2.out, (But2.below g h hb1).trans hB2⟩
theorem clear_nil (w : World) : Calls Try.prog 25 #[.pointer none] w fun e w' => e = .returned (.tuple #[]) ∧ Below w.heap.size w w' := by
  go_enter Try.func25, Try.ntmps25
  go_wp2_with fail
  refine (len_nil _).mono ?_; rintro e w1 ⟨rfl, hb1⟩
  have hz1 := hb1.size
  go_wp2_with fail
  refine (drop_nil 0 _).mono ?_; rintro e w2 ⟨rfl, hb2⟩
  go_wp2
  go_end0
  exact ⟨rfl, by (repeat (first | (with_reducible exact Below.refl _ _) | ((with_reducible refine below_alloc ?_ ?_ _); · (first | omega | (simp; done) | (simp; omega))) | ((with_reducible refine below_setCell ?_ ?_ _); · (first | omega | (simp; done) | (simp; omega))) | (with_reducible refine Below.drew ?_) | (with_reducible refine below_drewN ?_ _) | ((with_reducible refine below_call (by assumption) ?_ ?_); · (first | omega | (simp; done) | (simp; omega)))))⟩

theorem take_any (g h N : Nat) (L : List Int) (w : World) (H : IsR w g h N L) :
    Calls Try.prog 21 #[ptrV g] w fun e w' => e = .returned (.tuple #[.int .i64 (L.headD 0), .bool (decide (0 < L.length))]) ∧ IsR w' g h N (L.drop 1) ∧ But2 w w' g h := by
  have ca := at_any g h N L 0 w H
  have cd := fun W (hb : Below w.heap.size w W) => drop_any g h N L 1 W (H.call hb)
  have hd : L.drop (dropK L 1) = L.drop 1 := by
    unfold dropK
    cases L with
    | nil => rfl
    | cons x L => congr 1; simp; omega
  have ha : atP L 0 = (L.headD 0, decide (0 < L.length)) := by
    cases L with
    | nil => rfl
    | cons x L => exact (atP_yes (L := x :: L) (i := 0) (by simp)).trans (by simp)
  rw [ha] at ca
  rw [hd] at cd
  clear H hd ha
  obtain ⟨x, hx⟩ : ∃ x, L.headD 0 = x := ⟨_, rfl⟩
  obtain ⟨b, hb⟩ : ∃ b, decide (0 < L.length) = b := ⟨_, rfl⟩
  obtain ⟨L2, hL2⟩ : ∃ L2, L.drop 1 = L2 := ⟨_, rfl⟩
  rw [hL2] at cd
  rw [hx, hb] at ca
  rw [hL2, hx, hb]
  clear hL2 hx hb
  go_enter Try.func21, Try.ntmps21
  go_wp2_with fail
  refine ca.mono ?_; rintro e w1 ⟨rfl, hb1⟩
  go_wp2_with fail
  refine (cd _ hb1).mono ?_; rintro e w2 ⟨rfl, H2, hB2⟩
  have H2 := Lib.hid H2
  go_wp2
  go_ret2
  exact ⟨rfl, H2.out, (But2.below g h hb1).trans hB2⟩
theorem take_nil (w : World) : Calls Try.prog 21 #[.pointer none] w fun e w' => e = .returned (.tuple #[.int .i64 0, .bool false]) ∧ Below w.heap.size w w' := by
  go_enter Try.func21, Try.ntmps21
  go_wp2_with fail
  refine (at_nil 0 _).mono ?_; rintro e w1 ⟨rfl, hb1⟩
  have hz1 := hb1.size
  go_wp2_with fail
  refine (drop_nil 1 _).mono ?_; rintro e w2 ⟨rfl, hb2⟩
  go_wp2
  go_ret2
  exact ⟨rfl, by (repeat (first | (with_reducible exact Below.refl _ _) | ((with_reducible refine below_alloc ?_ ?_ _); · (first | omega | (simp; done) | (simp; omega))) | ((with_reducible refine below_setCell ?_ ?_ _); · (first | omega | (simp; done) | (simp; omega))) | (with_reducible refine Below.drew ?_) | (with_reducible refine below_drewN ?_ _) | ((with_reducible refine below_call (by assumption) ?_ ?_); · (first | omega | (simp; done) | (simp; omega)))))⟩

theorem last_none (g h N : Nat) (w : World) (H : IsR w g h N []) :
    Calls Try.prog 23 #[ptrV g] w fun e w' => e = .returned (.tuple #[.int .i64 0, .bool false]) ∧ IsR w' g h N [] ∧ But2 w w' g h := by
  have cl := len_any g h N [] w H
  have ca := fun W (hb : Below w.heap.size w W) => at_any g h N [] (-1) W (H.call hb)
  have HR := Lib.hid H
  have e1 : atP [] (-1) = (0, false) := rfl
  rw [e1] at ca
  rw [List.length_nil] at cl
  clear H e1
  go_enter Try.func23, Try.ntmps23
  go_wp2_with fail
  refine cl.mono ?_; rintro e w1 ⟨rfl, hb1⟩
  have hz1 := hb1.size
  go_wp2_with fail
  refine (ca _ hb1).mono ?_; rintro e w2 ⟨rfl, hb2⟩
  go_wp2
  go_ret2
  have hbw := (show Below w.heap.size w w2 by (repeat (first | (with_reducible exact Below.refl _ _) | ((with_reducible refine below_alloc ?_ ?_ _); · (first | omega | (simp; done) | (simp; omega))) | ((with_reducible refine below_setCell ?_ ?_ _); · (first | omega | (simp; done) | (simp; omega))) | (with_reducible refine Below.drew ?_) | (with_reducible refine below_drewN ?_ _) | ((with_reducible refine below_call (by assumption) ?_ ?_); · (first | omega | (simp; done) | (simp; omega))))))
  exact ⟨rfl, HR.out.call hbw, But2.below g h hbw⟩
theorem last_some (g h N : Nat) (L : List Int) (x : Int) (w : World) (H : IsR w g h N (L ++ [x])) :
    Calls Try.prog 23 #[ptrV g] w fun e w' => e = .returned (.tuple #[.int .i64 x, .bool true]) ∧ IsR w' g h N L ∧ But2 w w' g h := by
  have cl := len_any g h N (L ++ [x]) w H
  obtain ⟨-, -, hlN, -, hN, -⟩ := H.lt
  have ca := fun W (hb : Below w.heap.size w W) => at_any g h N (L ++ [x]) L.length W (H.call hb)
  have e1 : atP (L ++ [x]) L.length = (x, true) := by rw [atP_yes (by simp)]; simp
  rw [e1] at ca
  have el : ((L ++ [x]).length : Int) = (L.length : Int) + 1 := by simp
  have el2 : (L ++ [x]).length = L.length + 1 := by simp
  rw [el] at cl
  obtain ⟨f, c, H, HO⟩ := H
  have HOK := Lib.hid (last_ok (k := 0) H.hf HO (by omega))
  have HC := Lib.hid H
  have hw : IntKind.i64.wrap ((L.length : Int) + 1 - 1) = (L.length : Int) := by rw [IntWalk.i64_in _ (by omega)]; omega
  have hw2 : (L.length : Int) + 1 - 1 = (L.length : Int) := by omega
  clear H e1 el HO
  go_enter Try.func23, Try.ntmps23
  go_wp2_with fail
  refine cl.mono ?_; rintro e w1 ⟨rfl, hb1⟩
  have hz1 := hb1.size
  go_wp2_with fail
  refine (ca _ hb1).mono ?_; rintro e w2 ⟨rfl, hb2⟩
  have hbw := (show Below w.heap.size w w2 by (repeat (first | (with_reducible exact Below.refl _ _) | ((with_reducible refine below_alloc ?_ ?_ _); · (first | omega | (simp; done) | (simp; omega))) | ((with_reducible refine below_setCell ?_ ?_ _); · (first | omega | (simp; done) | (simp; omega))) | (with_reducible refine Below.drew ?_) | (with_reducible refine below_drewN ?_ _) | ((with_reducible refine below_call (by assumption) ?_ ?_); · (first | omega | (simp; done) | (simp; omega))))))
  have H2 := HC.out.call hbw
  rw [el2] at H2
  have c2 := H2.c2
  have hc2 : ((L.length + 1 : Nat) : Int) = (L.length : Int) + 1 := by omega
  rw [hc2] at c2
  have cw := wipe_any g h N f (L.length + 1) c L.length 1 w2 H2 (by omega) (by omega)
  clear H2
  go_wp2_with fail
  refine cw.mono ?_; rintro e w3 ⟨rfl, H3, hB3⟩
  have d2 := H3.c2
  have fr := H3.fr
  rw [hc2] at d2
  have H4 := Lib.hid (H3.setK L.length (by omega))
  clear H3 cw hc2
  go_wp2
  go_ret2
  exact ⟨rfl, ⟨_, _, H4.out, HOK.out⟩, ((But2.below g h hbw).trans hB3).set _ (.inl rfl)⟩
theorem last_nil (w : World) : Calls Try.prog 23 #[.pointer none] w fun e w' => e = .returned (.tuple #[.int .i64 0, .bool false]) ∧ Below w.heap.size w w' := by
  go_enter Try.func23, Try.ntmps23
  go_wp2_with fail
  refine (len_nil _).mono ?_; rintro e w1 ⟨rfl, hb1⟩
  have hz1 := hb1.size
  go_wp2_with fail
  refine (at_nil (-1) _).mono ?_; rintro e w2 ⟨rfl, hb2⟩
  go_wp2
  go_ret2
  exact ⟨rfl, by (repeat (first | (with_reducible exact Below.refl _ _) | ((with_reducible refine below_alloc ?_ ?_ _); · (first | omega | (simp; done) | (simp; omega))) | ((with_reducible refine below_setCell ?_ ?_ _); · (first | omega | (simp; done) | (simp; omega))) | (with_reducible refine Below.drew ?_) | (with_reducible refine below_drewN ?_ _) | ((with_reducible refine below_call (by assumption) ?_ ?_); · (first | omega | (simp; done) | (simp; omega)))))⟩
end Go.Proofs.Ytphgilgmoeliaaa
