/- Layer 5, the program's: contracts: At, Put, Push, wipe. -/
import Derived.Test.YtphgilgmoeliaaaF5A
namespace Go.Proofs.Ytphgilgmoeliaaa
open Go.RowKit
set_option linter.unusedVariables false
set_option linter.unusedSimpArgs false

/-- the i-th number -/
def atP (L : List Int) (i : Int) : Int × Bool := if 0 ≤ i ∧ i < L.length then (L.getD i.toNat 0, true) else (0, false)
theorem atP_no {L : List Int} {i : Int} (h : ¬ (0 ≤ i ∧ i < L.length)) : atP L i = (0, false) := by unfold atP; rw [if_neg h]
theorem atP_yes {L : List Int} {i : Nat} (h : i < L.length) : atP L i = (L[i], true) := by
  unfold atP; rw [if_pos (by omega)]; simp [List.getD, h]
theorem ret_at {L : List Int} {i : Int} {x : Int} {b : Bool} (h : atP L i = (x, b)) : Ending.returned (.tuple #[.int .i64 x, .bool b]) = .returned (.tuple #[.int .i64 (atP L i).1, .bool (atP L i).2]) := by rw [h]

theorem at_any (g h N : Nat) (L : List Int) (i : Int) (w : World) (H : IsR w g h N L) :
    Calls Try.prog 12 #[ptrV g, .int .i64 i] w fun e w' => e = .returned (.tuple #[.int .i64 (atP L i).1, .bool (atP L i).2]) ∧ Below w.heap.size w w' := by
  have HL := H.lt
  have HR := Lib.hid H
  have cl := fun W (hb : Below w.heap.size w W) => len_any g h N L W (H.call hb)
  obtain ⟨f, c, H, HO⟩ := H
  by_cases h0 : i < 0
  · have hr := Lib.hid (atP_no (L := L) (i := i) (by omega))
    clear H HO HL cl
    go_enter Try.func12, Try.ntmps12
    go_wp2
    go_ret2
    exact ⟨ret_at hr.out, by (repeat (first | (with_reducible exact Below.refl _ _) | ((with_reducible refine below_alloc ?_ ?_ _); · (first | omega | (simp; done) | (simp; omega))) | ((with_reducible refine below_setCell ?_ ?_ _); · (first | omega | (simp; done) | (simp; omega))) | (with_reducible refine Below.drew ?_) | (with_reducible refine below_drewN ?_ _) | ((with_reducible refine below_call (by assumption) ?_ ?_); · (first | omega | (simp; done) | (simp; omega)))))⟩
  · by_cases h1 : i < L.length
    · obtain ⟨k, rfl⟩ : ∃ k : Nat, i = k := ⟨i.toNat, by omega⟩
      have hk : k < L.length := by omega
      have hx := HO k hk
      have hr := atP_yes hk
      obtain ⟨x, hx2⟩ : ∃ x, L[k] = x := ⟨_, rfl⟩
      rw [hx2] at hx hr
      have hr := Lib.hid hr
      have hlt := cellN_lt H.hf (show k ≤ N by omega)
      have HC := Lib.hid H
      have cc := fun W (hb : Below w.heap.size w W) => cell_any g h N f L.length c k W (H.call hb) (by omega)
      have c0 := H.c0
      have cx := H.cs _ hlt
      obtain ⟨m, hm⟩ : ∃ m, cellN f N k = m := ⟨_, rfl⟩
      rw [hm] at cc cx hlt hx
      have HX : Hid (some (Value.int .i64 (c m)) = some (.int .i64 x)) := Lib.hid (by rw [hx])
      rw [← hx] at cx
      have hgl := H.ltg
      have hhl := H.lth
      clear hx hx2 hm HO H
      go_enter Try.func12, Try.ntmps12
      go_wp2_with fail
      refine (cl _ (by (repeat (first | (with_reducible exact Below.refl _ _) | ((with_reducible refine below_alloc ?_ ?_ _); · (first | omega | (simp; done) | (simp; omega))) | ((with_reducible refine below_setCell ?_ ?_ _); · (first | omega | (simp; done) | (simp; omega))) | (with_reducible refine Below.drew ?_) | (with_reducible refine below_drewN ?_ _) | ((with_reducible refine below_call (by assumption) ?_ ?_); · (first | omega | (simp; done) | (simp; omega))))))).mono ?_; rintro e w1 ⟨rfl, hb1⟩
      have hz1 := hb1.size
      have e0 := (hb1.cell (p := ⟨g, 0, none⟩) hgl).trans c0
      have ex := (hb1.cell (p := ⟨h, m, none⟩) hhl).trans cx
      clear c0 cx
      go_wp2
      go_region_with (go_at_call 31; refine (cc _ (by (repeat (first | (with_reducible exact Below.refl _ _) | ((with_reducible refine below_alloc ?_ ?_ _); · (first | omega | (simp; done) | (simp; omega))) | ((with_reducible refine below_setCell ?_ ?_ _); · (first | omega | (simp; done) | (simp; omega))) | (with_reducible refine Below.drew ?_) | (with_reducible refine below_drewN ?_ _) | ((with_reducible refine below_call (by assumption) ?_ ?_); · (first | omega | (simp; done) | (simp; omega))))))).mono ?_; rintro e w2 ⟨rfl, hb2⟩; have H2 := HC.out.call (show Below w.heap.size w w2 by (repeat (first | (with_reducible exact Below.refl _ _) | ((with_reducible refine below_alloc ?_ ?_ _); · (first | omega | (simp; done) | (simp; omega))) | ((with_reducible refine below_setCell ?_ ?_ _); · (first | omega | (simp; done) | (simp; omega))) | (with_reducible refine Below.drew ?_) | (with_reducible refine below_drewN ?_ _) | ((with_reducible refine below_call (by assumption) ?_ ?_); · (first | omega | (simp; done) | (simp; omega)))))); have d0 := H2.c0; have dx := (H2.cs m hlt).trans HX.out; clear H2)
      all_goals
        go_wp2
        go_ret2
        exact ⟨ret_at hr.out, by (repeat (first | (with_reducible exact Below.refl _ _) | ((with_reducible refine below_alloc ?_ ?_ _); · (first | omega | (simp; done) | (simp; omega))) | ((with_reducible refine below_setCell ?_ ?_ _); · (first | omega | (simp; done) | (simp; omega))) | (with_reducible refine Below.drew ?_) | (with_reducible refine below_drewN ?_ _) | ((with_reducible refine below_call (by assumption) ?_ ?_); · (first | omega | (simp; done) | (simp; omega)))))⟩
    · have hr := Lib.hid (atP_no (L := L) (i := i) (by omega))
      clear H HO HL
      go_enter Try.func12, Try.ntmps12
      go_wp2_with fail
      refine (cl _ (by (repeat (first | (with_reducible exact Below.refl _ _) | ((with_reducible refine below_alloc ?_ ?_ _); · (first | omega | (simp; done) | (simp; omega))) | ((with_reducible refine below_setCell ?_ ?_ _); · (first | omega | (simp; done) | (simp; omega))) | (with_reducible refine Below.drew ?_) | (with_reducible refine below_drewN ?_ _) | ((with_reducible refine below_call (by assumption) ?_ ?_); · (first | omega | (simp; done) | (simp; omega))))))).mono ?_; rintro e w1 ⟨rfl, hb1⟩
      have hz1 := hb1.size
      go_wp2
      go_ret2
      exact ⟨ret_at hr.out, by (repeat (first | (with_reducible exact Below.refl _ _) | ((with_reducible refine below_alloc ?_ ?_ _); · (first | omega | (simp; done) | (simp; omega))) | ((with_reducible refine below_setCell ?_ ?_ _); · (first | omega | (simp; done) | (simp; omega))) | (with_reducible refine Below.drew ?_) | (with_reducible refine below_drewN ?_ _) | ((with_reducible refine below_call (by assumption) ?_ ?_); · (first | omega | (simp; done) | (simp; omega)))))⟩
theorem at_nil (i : Int) (w : World) :
    Calls Try.prog 12 #[.pointer none, .int .i64 i] w fun e w' => e = .returned (.tuple #[.int .i64 0, .bool false]) ∧ Below w.heap.size w w' := by
  by_cases h0 : i < 0
  · go_enter Try.func12, Try.ntmps12
    go_wp2
    go_ret2
    exact ⟨rfl, by (repeat (first | (with_reducible exact Below.refl _ _) | ((with_reducible refine below_alloc ?_ ?_ _); · (first | omega | (simp; done) | (simp; omega))) | ((with_reducible refine below_setCell ?_ ?_ _); · (first | omega | (simp; done) | (simp; omega))) | (with_reducible refine Below.drew ?_) | (with_reducible refine below_drewN ?_ _) | ((with_reducible refine below_call (by assumption) ?_ ?_); · (first | omega | (simp; done) | (simp; omega)))))⟩
  · go_enter Try.func12, Try.ntmps12
    go_wp2_with fail
    refine (len_nil _).mono ?_; rintro e w1 ⟨rfl, hb1⟩
    have hz1 := hb1.size
    go_wp2
    go_ret2
    exact ⟨rfl, by (repeat (first | (with_reducible exact Below.refl _ _) | ((with_reducible refine below_alloc ?_ ?_ _); · (first | omega | (simp; done) | (simp; omega))) | ((with_reducible refine below_setCell ?_ ?_ _); · (first | omega | (simp; done) | (simp; omega))) | (with_reducible refine Below.drew ?_) | (with_reducible refine below_drewN ?_ _) | ((with_reducible refine below_call (by assumption) ?_ ?_); · (first | omega | (simp; done) | (simp; omega)))))⟩

/-- behind a call that writes in two blocks alone -/
def putP (N : Nat) (L : List Int) (n : Int) : List Int := if L.length < N then L ++ [n] else L
def pushP (N : Nat) (L : List Int) (n : Int) : List Int := if L.length < N then n :: L else L
theorem putP_ok {f N : Nat} {c : Nat → Int} {L : List Int} {n : Int} (hf : f < N) (hl : L.length < N) (H : Holds5 f N c L) : Holds5 f N (fun j => if j = cellN f N L.length then n else c j) (L ++ [n]) := by
  intro i hi
  rw [List.length_append, List.length_singleton] at hi
  by_cases e : i = L.length
  · subst e
    dsimp only; rw [if_pos rfl]; simp
  · have hi' : i < L.length := by omega
    dsimp only; rw [if_neg (fun e2 => e (cellN_eq hf (by omega) (by omega) e2)), List.getElem_append_left hi']
    exact H i hi'
theorem pushP_ok {f N : Nat} {c : Nat → Int} {L : List Int} {n : Int} (hf : f < N) (hl : L.length < N) (H : Holds5 f N c L) : Holds5 (cellN f N (N - 1)) N (fun j => if j = cellN f N (N - 1) then n else c j) (n :: L) := by
  have hff := cellN_lt hf (show N - 1 ≤ N by omega)
  have e0 : cellN (cellN f N (N - 1)) N 0 = cellN f N (N - 1) := by unfold cellN at hff ⊢; rw [if_pos (by omega)]; omega
  intro i hi
  rw [List.length_cons] at hi
  cases i with
  | zero => dsimp only; rw [e0, if_pos rfl]; rfl
  | succ i =>
    have hi' : i < L.length := by omega
    have e1 : cellN (cellN f N (N - 1)) N (i + 1) = cellN f N i := by unfold cellN; split <;> split <;> split <;> omega
    dsimp only; rw [e1, if_neg (fun e2 => by have := cellN_eq hf (m := i) (k := N - 1) (by omega) (by omega) e2; omega)]
    exact H i hi'

theorem put_any (g h N : Nat) (L : List Int) (n : Int) (w : World) (H : IsR w g h N L) :
    Calls Try.prog 20 #[ptrV g, .int .i64 n] w fun e w' => e = .returned (.bool (decide (L.length < N))) ∧ IsR w' g h N (putP N L n) ∧ But2 w w' g h := by
  have HL := H.lt
  have cr := room_any g h N L w H
  by_cases hl : L.length < N
  · obtain ⟨f, c, H, HO⟩ := H
    have hh := Lib.hid (putP_ok (n := n) H.hf hl HO)
    have hd : Hid (decide (L.length < N) = true) := Lib.hid (by simpa using hl)
    have hp : Hid (putP N L n = L ++ [n]) := Lib.hid (by unfold putP; rw [if_pos hl])
    have cc := fun W (hb : Below w.heap.size w W) => cell_any g h N f L.length c L.length W (H.call hb) (by omega)
    have hlt := cellN_lt H.hf (show L.length ≤ N by omega)
    have HC := Lib.hid H
    obtain ⟨m, hm⟩ : ∃ m, cellN f N L.length = m := ⟨_, rfl⟩
    rw [hm] at cc hlt hh
    have hz : ((N : Int) - L.length == 0) = false := by simp; omega
    have hw : IntKind.i64.wrap ((L.length : Int) + 1) = ((L.length + 1 : Nat) : Int) := by rw [IntWalk.i64_in _ (by omega)]; omega
    have ne := H.ne
    clear HO hm H
    go_enter Try.func20, Try.ntmps20
    go_wp2_with fail
    refine cr.mono ?_; rintro e w1 ⟨rfl, hb1⟩
    have hz1 := hb1.size
    have H1 := HC.out.call hb1
    have c0 := H1.c0
    have c2 := H1.c2
    clear H1 cr
    go_wp2
    go_region_with (go_at_call 31; refine (cc _ (by (repeat (first | (with_reducible exact Below.refl _ _) | ((with_reducible refine below_alloc ?_ ?_ _); · (first | omega | (simp; done) | (simp; omega))) | ((with_reducible refine below_setCell ?_ ?_ _); · (first | omega | (simp; done) | (simp; omega))) | (with_reducible refine Below.drew ?_) | (with_reducible refine below_drewN ?_ _) | ((with_reducible refine below_call (by assumption) ?_ ?_); · (first | omega | (simp; done) | (simp; omega))))))).mono ?_; rintro e w2 ⟨rfl, hb2⟩; have hbw := (show Below w.heap.size w w2 by (repeat (first | (with_reducible exact Below.refl _ _) | ((with_reducible refine below_alloc ?_ ?_ _); · (first | omega | (simp; done) | (simp; omega))) | ((with_reducible refine below_setCell ?_ ?_ _); · (first | omega | (simp; done) | (simp; omega))) | (with_reducible refine Below.drew ?_) | (with_reducible refine below_drewN ?_ _) | ((with_reducible refine below_call (by assumption) ?_ ?_); · (first | omega | (simp; done) | (simp; omega)))))); have H2 := HC.out.call hbw; have d0 := H2.c0; have dm := H2.cs m hlt; have fs := H2.fs m; have fr := H2.fr 2; have d2 := (H2.setC m n hlt).c2; have H3 := Lib.hid (H2.setC m n hlt); clear H2)
    all_goals
      go_wp2
      go_ret
      rw [hp.out]
      refine ⟨ret_bool hd.out.symm, ⟨_, _, ?_, hh.out⟩, ((But2.below g h hbw).set _ (.inr rfl)).set _ (.inl rfl)⟩
      have := H3.out.setK (L.length + 1) (by omega)
      simpa using this
  · have hd : Hid (decide (L.length < N) = false) := Lib.hid (by simpa using hl)
    have hp : Hid (putP N L n = L) := Lib.hid (by unfold putP; rw [if_neg hl])
    have hz : ((N : Int) - L.length == 0) = true := by simp; omega
    have HR := Lib.hid H
    clear H
    go_enter Try.func20, Try.ntmps20
    go_wp2_with fail
    refine cr.mono ?_; rintro e w1 ⟨rfl, hb1⟩
    have hz1 := hb1.size
    go_wp2
    go_ret
    rw [hp.out]
    exact ⟨ret_bool hd.out.symm, HR.out.call hb1, But2.below g h hb1⟩
theorem put_nil (n : Int) (w : World) :
    Calls Try.prog 20 #[.pointer none, .int .i64 n] w fun e w' => e = .returned (.bool false) ∧ Below w.heap.size w w' := by
  go_enter Try.func20, Try.ntmps20
  go_wp2_with fail
  refine (room_nil _).mono ?_; rintro e w1 ⟨rfl, hb1⟩
  have hz1 := hb1.size
  go_wp2
  go_ret
  exact ⟨rfl, by (repeat (first | (with_reducible exact Below.refl _ _) | ((with_reducible refine below_alloc ?_ ?_ _); · (first | omega | (simp; done) | (simp; omega))) | ((with_reducible refine below_setCell ?_ ?_ _); · (first | omega | (simp; done) | (simp; omega))) | (with_reducible refine Below.drew ?_) | (with_reducible refine below_drewN ?_ _) | ((with_reducible refine below_call (by assumption) ?_ ?_); · (first | omega | (simp; done) | (simp; omega)))))⟩

theorem push_any (g h N : Nat) (L : List Int) (n : Int) (w : World) (H : IsR w g h N L) :
    Calls Try.prog 22 #[ptrV g, .int .i64 n] w fun e w' => e = .returned (.bool (decide (L.length < N))) ∧ IsR w' g h N (pushP N L n) ∧ But2 w w' g h := by
  have HL := H.lt
  have cr := room_any g h N L w H
  by_cases hl : L.length < N
  · obtain ⟨f, c, H, HO⟩ := H
    have hh := Lib.hid (pushP_ok (n := n) H.hf hl HO)
    have hd : Hid (decide (L.length < N) = true) := Lib.hid (by simpa using hl)
    have hp : Hid (pushP N L n = n :: L) := Lib.hid (by unfold pushP; rw [if_pos hl])
    have cc := fun W (hb : Below w.heap.size w W) => cell_any g h N f L.length c (N - 1) W (H.call hb) (by omega)
    have hn1 : ((N - 1 : Nat) : Int) = (N : Int) - 1 := by omega
    rw [hn1] at cc
    have hwn : IntKind.i64.wrap ((N : Int) - 1) = (N : Int) - 1 := IntWalk.i64_in _ (by omega)
    have hlt := cellN_lt H.hf (show N - 1 ≤ N by omega)
    have HC := Lib.hid H
    obtain ⟨m, hm⟩ : ∃ m, cellN f N (N - 1) = m := ⟨_, rfl⟩
    rw [hm] at cc hlt hh
    have hz : ((N : Int) - L.length == 0) = false := by simp; omega
    have hw : IntKind.i64.wrap ((L.length : Int) + 1) = ((L.length + 1 : Nat) : Int) := by rw [IntWalk.i64_in _ (by omega)]; omega
    have ne := H.ne
    clear HO hm H hn1
    go_enter Try.func22, Try.ntmps22
    go_wp2_with fail
    refine cr.mono ?_; rintro e w1 ⟨rfl, hb1⟩
    have hz1 := hb1.size
    have H1 := HC.out.call hb1
    have c0 := H1.c0
    clear H1 cr
    go_wp2_with fail
    refine (cc _ (by (repeat (first | (with_reducible exact Below.refl _ _) | ((with_reducible refine below_alloc ?_ ?_ _); · (first | omega | (simp; done) | (simp; omega))) | ((with_reducible refine below_setCell ?_ ?_ _); · (first | omega | (simp; done) | (simp; omega))) | (with_reducible refine Below.drew ?_) | (with_reducible refine below_drewN ?_ _) | ((with_reducible refine below_call (by assumption) ?_ ?_); · (first | omega | (simp; done) | (simp; omega))))))).mono ?_; rintro e w2 ⟨rfl, hb2⟩
    have hbw := (show Below w.heap.size w w2 by (repeat (first | (with_reducible exact Below.refl _ _) | ((with_reducible refine below_alloc ?_ ?_ _); · (first | omega | (simp; done) | (simp; omega))) | ((with_reducible refine below_setCell ?_ ?_ _); · (first | omega | (simp; done) | (simp; omega))) | (with_reducible refine Below.drew ?_) | (with_reducible refine below_drewN ?_ _) | ((with_reducible refine below_call (by assumption) ?_ ?_); · (first | omega | (simp; done) | (simp; omega))))))
    have H2 := HC.out.call hbw
    have fr := H2.fr
    have d1 := H2.c1
    have H3 := H2.setF m hlt
    have e0 := H3.c0
    have e1 := H3.c1
    have fs := H3.fs m
    have em := H3.cs m hlt
    have H4 := H3.setC m n hlt
    have e2 := H4.c2
    have HF := Lib.hid (H4.setK (L.length + 1) (by omega))
    clear H2 H3 H4
    go_wp2
    go_region_with (fail)
    all_goals
      go_wp2
      go_ret
      rw [hp.out]
      refine ⟨ret_bool hd.out.symm, ⟨_, _, ?_, hh.out⟩, ((((But2.below g h hbw).set _ (.inl rfl)).set _ (.inr rfl)).set _ (.inl rfl)).drew⟩
      simpa using HF.out.drew
  · have hd : Hid (decide (L.length < N) = false) := Lib.hid (by simpa using hl)
    have hp : Hid (pushP N L n = L) := Lib.hid (by unfold pushP; rw [if_neg hl])
    have hz : ((N : Int) - L.length == 0) = true := by simp; omega
    have HR := Lib.hid H
    clear H
    go_enter Try.func22, Try.ntmps22
    go_wp2_with fail
    refine cr.mono ?_; rintro e w1 ⟨rfl, hb1⟩
    have hz1 := hb1.size
    go_wp2
    go_ret
    rw [hp.out]
    exact ⟨ret_bool hd.out.symm, HR.out.call hb1, But2.below g h hb1⟩
theorem push_nil (n : Int) (w : World) :
    Calls Try.prog 22 #[.pointer none, .int .i64 n] w fun e w' => e = .returned (.bool false) ∧ Below w.heap.size w w' := by
  go_enter Try.func22, Try.ntmps22
  go_wp2_with fail
  refine (room_nil _).mono ?_; rintro e w1 ⟨rfl, hb1⟩
  have hz1 := hb1.size
  go_wp2
  go_ret
  exact ⟨rfl, by (repeat (first | (with_reducible exact Below.refl _ _) | ((with_reducible refine below_alloc ?_ ?_ _); · (first | omega | (simp; done) | (simp; omega))) | ((with_reducible refine below_setCell ?_ ?_ _); · (first | omega | (simp; done) | (simp; omega))) | (with_reducible refine Below.drew ?_) | (with_reducible refine below_drewN ?_ _) | ((with_reducible refine below_call (by assumption) ?_ ?_); · (first | omega | (simp; done) | (simp; omega)))))⟩
end Go.Proofs.Ytphgilgmoeliaaa
