/- Layer 5, the document's: a ring is its room and a row of numbers; contracts: New, At, Find, Take, Last, Drop. -/
import Derived.Test.YtphgilgmoeliaaaF5E
import Derived.Deep.RegionHeld3
import Derived.Maps.AppendAt
namespace Go.Proofs.Ytphgilgmoeliaaa
open Go.RowKit
set_option linter.unusedVariables false
set_option linter.unusedSimpArgs false

/-- v reads as these numbers, and lies in such a block (B) -/
def IsF (w : World) (B : Nat → Prop) (v : Value) (L : List Int) : Prop :=
  (v = .slice none 0 0 ∧ L = []) ∨ ∃ b off cap, v = .slice (some ⟨b, off, none⟩) L.length cap ∧ B b ∧ b < w.heap.size ∧ L.length ≤ cap ∧ ∀ j (h : j < L.length), w.cell? ⟨b, off + j, none⟩ = some (.int .i64 L[j])
theorem IsF.call {W w1 : World} {B : Nat → Prop} {v : Value} {L : List Int} (h : IsF W B v L) (hb : Below W.heap.size W w1) : IsF w1 B v L := by
  rcases h with h | ⟨b, off, cap, hv, h1, h2, h3, h4⟩
  · exact .inl h
  · exact .inr ⟨b, off, cap, hv, h1, Nat.lt_of_lt_of_le h2 hb.size, h3, fun j hj => (hb.cell (p := ⟨b, off + j, none⟩) h2).trans (h4 j hj)⟩
theorem IsF.but {W w1 : World} {B : Nat → Prop} {g h : Nat} {v : Value} {L : List Int} (H : IsF W B v L) (hb : But2 W w1 g h) (hg : ¬ B g) (hh : ¬ B h) : IsF w1 B v L := by
  rcases H with H | ⟨b, off, cap, hv, h1, h2, h3, h4⟩
  · exact .inl H
  · exact .inr ⟨b, off, cap, hv, h1, Nat.lt_of_lt_of_le h2 hb.size, h3, fun j hj => hb.cell (h4 j hj) (by rintro rfl; exact hg h1) (by rintro rfl; exact hh h1)⟩
theorem IsF.reads {w : World} {B : Nat → Prop} {v : Value} {L : List Int} (H : IsF w B v L) : IsI w v L := by
  rcases H with ⟨rfl, rfl⟩ | ⟨b, off, cap, rfl, h1, h2, h3, h4⟩
  · exact ⟨none, 0, rfl, fun j hj => by cases hj⟩
  · exact ⟨_, cap, rfl, fun j hj => ⟨b, off, rfl, h4 j hj⟩⟩
theorem IsF.shape {w : World} {B : Nat → Prop} {v : Value} {L : List Int} (H : IsF w B v L) : ∃ p cap, v = .slice p L.length cap ∧ L.length ≤ cap := by
  rcases H with ⟨rfl, rfl⟩ | ⟨b, off, cap, rfl, h1, h2, h3, h4⟩
  · exact ⟨none, 0, rfl, Nat.le_refl _⟩
  · exact ⟨_, cap, rfl, h3⟩
theorem IsF.nil (w : World) (B : Nat → Prop) : IsF w B (.slice none 0 0) [] := .inl ⟨rfl, rfl⟩
theorem OwnI.isF {w : World} {B : Nat} {B' : Nat → Prop} {v : Value} {L : List Int} (h : OwnI w B v L) (hB : ∀ b, B ≤ b → B' b) : IsF w B' v L := by
  have h' : w.ownsRow B 3 1 v L.length (L.map (Value.int .i64)) := h
  rcases h.2 with ⟨hv, hn⟩ | ⟨g, cap, cur, hv, hBg, hg, hle, hcm, hcs, ht⟩
  · exact .inl ⟨hv, List.eq_nil_of_length_eq_zero hn⟩
  · subst hv
    refine .inr ⟨g, 0, cap, rfl, hB _ hBg, (Array.getElem?_eq_some_iff.1 hg).1, hle, fun j hj => ?_⟩
    rw [Nat.zero_add, h'.cellAt j (by omega)]
    simp [hj]
abbrev docV (N : Nat) (v : Value) : Value := .agg #[.int .i64 N, v]

theorem dnew_no (n : Int) (w : World) (hn : n < 1 ∨ 64 < n) : Calls Try.prog 9 #[.int .i64 n] w fun e w' => e = .returned (.tuple #[docV 0 (.slice none 0 0), .int .i64 8]) ∧ Below w.heap.size w w' := by
  by_cases h1 : n < 1
  · clear hn
    go_enter Try.func9, Try.ntmps9
    go_wp2
    refine bodyPost_ret (v := .tuple #[docV 0 (.slice none 0 0), .int .i64 8]) (by simp [results, Try.results9, go_sem]) rfl ⟨rfl, ?_⟩
    (repeat (first | (with_reducible exact Below.refl _ _) | ((with_reducible refine below_alloc ?_ ?_ _); · (first | omega | (simp; done) | (simp; omega))) | ((with_reducible refine below_setCell ?_ ?_ _); · (first | omega | (simp; done) | (simp; omega))) | (with_reducible refine Below.drew ?_) | (with_reducible refine below_drewN ?_ _) | ((with_reducible refine below_call (by assumption) ?_ ?_); · (first | omega | (simp; done) | (simp; omega)))))
  · have h2 : 64 < n := by omega
    have h1' : 1 ≤ n := by omega
    clear hn h1
    go_enter Try.func9, Try.ntmps9
    go_wp2
    refine bodyPost_ret (v := .tuple #[docV 0 (.slice none 0 0), .int .i64 8]) (by simp [results, Try.results9, go_sem]) rfl ⟨rfl, ?_⟩
    (repeat (first | (with_reducible exact Below.refl _ _) | ((with_reducible refine below_alloc ?_ ?_ _); · (first | omega | (simp; done) | (simp; omega))) | ((with_reducible refine below_setCell ?_ ?_ _); · (first | omega | (simp; done) | (simp; omega))) | (with_reducible refine Below.drew ?_) | (with_reducible refine below_drewN ?_ _) | ((with_reducible refine below_call (by assumption) ?_ ?_); · (first | omega | (simp; done) | (simp; omega)))))
theorem dnew_yes (N : Nat) (w : World) (h1 : 1 ≤ N) (h2 : N ≤ 64) : Calls Try.prog 9 #[.int .i64 N] w fun e w' => e = .returned (.tuple #[docV N (.slice none 0 0), .int .i64 0]) ∧ Below w.heap.size w w' := by
  have h1' : (1 : Int) ≤ N := by omega
  have h2' : (N : Int) ≤ 64 := by omega
  go_enter Try.func9, Try.ntmps9
  go_wp2
  refine bodyPost_ret (v := .tuple #[docV N (.slice none 0 0), .int .i64 0]) (by simp [results, Try.results9, go_sem]) rfl ⟨rfl, ?_⟩
  (repeat (first | (with_reducible exact Below.refl _ _) | ((with_reducible refine below_alloc ?_ ?_ _); · (first | omega | (simp; done) | (simp; omega))) | ((with_reducible refine below_setCell ?_ ?_ _); · (first | omega | (simp; done) | (simp; omega))) | (with_reducible refine Below.drew ?_) | (with_reducible refine below_drewN ?_ _) | ((with_reducible refine below_call (by assumption) ?_ ?_); · (first | omega | (simp; done) | (simp; omega)))))

theorem dat_any (N : Nat) (B : Nat → Prop) (v : Value) (L : List Int) (i : Int) (w : World) (H : IsF w B v L) (hl : L.length ≤ 64) :
    Calls Try.prog 13 #[docV N v, .int .i64 i] w fun e w' => e = .returned (.tuple #[.int .i64 (atP L i).1, .bool (atP L i).2]) ∧ Below w.heap.size w w' := by
  obtain ⟨p, cap, rfl, hcap⟩ := H.shape
  by_cases h0 : i < 0
  · have hr := Lib.hid (atP_no (L := L) (i := i) (by omega))
    clear H
    go_enter Try.func13, Try.ntmps13
    go_wp2
    go_ret2
    exact ⟨ret_at hr.out, by (repeat (first | (with_reducible exact Below.refl _ _) | ((with_reducible refine below_alloc ?_ ?_ _); · (first | omega | (simp; done) | (simp; omega))) | ((with_reducible refine below_setCell ?_ ?_ _); · (first | omega | (simp; done) | (simp; omega))) | (with_reducible refine Below.drew ?_) | (with_reducible refine below_drewN ?_ _) | ((with_reducible refine below_call (by assumption) ?_ ?_); · (first | omega | (simp; done) | (simp; omega)))))⟩
  · by_cases h1 : i < L.length
    · obtain ⟨k, rfl⟩ : ∃ k : Nat, i = k := ⟨i.toNat, by omega⟩
      have hk : k < L.length := by omega
      have hr := Lib.hid (atP_yes hk)
      obtain ⟨p', cap', hv, hrd⟩ := H.reads
      cases hv
      obtain ⟨b, off, rfl, hx⟩ := hrd k hk
      obtain ⟨x, hx2⟩ : ∃ x, L[k] = x := ⟨_, rfl⟩
      rw [hx2] at hx hr
      have hbl := World.block_lt_of_cell? _ _ hx
      clear H hrd hx2
      go_enter Try.func13, Try.ntmps13
      go_wp2
      go_ret2
      exact ⟨ret_at hr.out, by (repeat (first | (with_reducible exact Below.refl _ _) | ((with_reducible refine below_alloc ?_ ?_ _); · (first | omega | (simp; done) | (simp; omega))) | ((with_reducible refine below_setCell ?_ ?_ _); · (first | omega | (simp; done) | (simp; omega))) | (with_reducible refine Below.drew ?_) | (with_reducible refine below_drewN ?_ _) | ((with_reducible refine below_call (by assumption) ?_ ?_); · (first | omega | (simp; done) | (simp; omega)))))⟩
    · have hr := Lib.hid (atP_no (L := L) (i := i) (by omega))
      clear H
      go_enter Try.func13, Try.ntmps13
      go_wp2
      go_ret2
      exact ⟨ret_at hr.out, by (repeat (first | (with_reducible exact Below.refl _ _) | ((with_reducible refine below_alloc ?_ ?_ _); · (first | omega | (simp; done) | (simp; omega))) | ((with_reducible refine below_setCell ?_ ?_ _); · (first | omega | (simp; done) | (simp; omega))) | (with_reducible refine Below.drew ?_) | (with_reducible refine below_drewN ?_ _) | ((with_reducible refine below_call (by assumption) ?_ ?_); · (first | omega | (simp; done) | (simp; omega)))))⟩

set_option maxRecDepth 100000 in
set_option maxHeartbeats 1000000 in
theorem dfind_any (N : Nat) (B : Nat → Prop) (v : Value) (L : List Int) (n : Int) (w : World) (H : IsF w B v L) (hl : L.length ≤ 64) :
    Calls Try.prog 19 #[docV N v, .int .i64 n] w fun e w' => e = .returned (.int .i64 (findP L n)) ∧ Below w.heap.size w w' := by
  obtain ⟨p, cap, rfl, hcap⟩ := H.shape
  have HR := Lib.hid H.reads
  clear H
  go_enter Try.func19, Try.ntmps19
  go_wp2
  go_loopw [5] (fun i wr => ∃ k : Nat, i = .int .i64 k ∧ k ≤ L.length ∧ findF (L.drop k) n k = findP L n ∧ wr.cell? ⟨w.heap.size, 1, none⟩ = some (.slice p L.length cap) ∧ Below w.heap.size w wr) (fun i _ => L.length - (intOf i).toNat)
  case atStart => exact ⟨0, rfl, by omega, rfl, by simp [go_sem], by (repeat (first | (with_reducible exact Below.refl _ _) | ((with_reducible refine below_alloc ?_ ?_ _); · (first | omega | (simp; done) | (simp; omega))) | ((with_reducible refine below_setCell ?_ ?_ _); · (first | omega | (simp; done) | (simp; omega))) | (with_reducible refine Below.drew ?_) | (with_reducible refine below_drewN ?_ _) | ((with_reducible refine below_call (by assumption) ?_ ?_); · (first | omega | (simp; done) | (simp; omega)))))⟩
  case round =>
    obtain ⟨k, rfl, hk, hr, c1, hB⟩ := hrel
    by_cases hlt : k < L.length
    · have hlt' : (k : Int) < L.length := by omega
      obtain ⟨p', cap', hv, hrd⟩ := HR.out
      cases hv
      obtain ⟨b, off, rfl, hx⟩ := hrd k hlt
      rw [findF_step L n k hlt] at hr
      obtain ⟨x, hx2⟩ : ∃ x, L[k] = x := ⟨_, rfl⟩
      rw [hx2] at hx hr
      have cx := (hB.cell (p := ⟨b, off + k, none⟩) (World.block_lt_of_cell? _ _ hx)).trans hx
      clear hx hrd hx2
      by_cases he : x = n
      · rw [if_pos he] at hr
        replace hr := Lib.hid hr
        subst he
        go_wp2
        go_ret
        exact ⟨ret_int hr.out, hB⟩
      · rw [if_neg he] at hr
        replace hr := Lib.hid hr
        have he' : (x == n) = false := by simpa using he
        clear he
        go_wp2
        go_roundw
        case rel => exact ⟨k + 1, by go_num, by omega, hr.out, c1, hB⟩
        case measure => simp [intOf]; omega
    · obtain rfl : k = L.length := by omega
      rw [List.drop_length] at hr
      replace hr := Lib.hid hr
      go_wp2
      go_ret
      exact ⟨ret_int hr.out, hB⟩

theorem dtake_none (N : Nat) (B : Nat → Prop) (v : Value) (w : World) (H : IsF w B v []) :
    Calls Try.prog 27 #[docV N v] w fun e w' => e = .returned (.tuple #[docV N v, .int .i64 0, .bool false]) ∧ Below w.heap.size w w' := by
  obtain ⟨p, cap, rfl, hcap⟩ := H.shape
  clear H
  rw [List.length_nil] at hcap ⊢
  go_enter Try.func27, Try.ntmps27
  go_wp2
  refine bodyPost_ret (v := .tuple #[docV N (.slice p 0 cap), .int .i64 0, .bool false]) (by simp [results, Try.results27, go_sem]) rfl ⟨rfl, ?_⟩
  (repeat (first | (with_reducible exact Below.refl _ _) | ((with_reducible refine below_alloc ?_ ?_ _); · (first | omega | (simp; done) | (simp; omega))) | ((with_reducible refine below_setCell ?_ ?_ _); · (first | omega | (simp; done) | (simp; omega))) | (with_reducible refine Below.drew ?_) | (with_reducible refine below_drewN ?_ _) | ((with_reducible refine below_call (by assumption) ?_ ?_); · (first | omega | (simp; done) | (simp; omega)))))
theorem isF_cut {w : World} {B : Nat → Prop} {b off cap n : Nat} {L : List Int} {p : Option Addr} (k : Nat) (hk : k ≤ L.length) (h1 : B b) (h2 : b < w.heap.size) (h3 : L.length ≤ cap) (h4 : ∀ j (h : j < L.length), w.cell? ⟨b, off + j, none⟩ = some (.int .i64 L[j]))
    (hp : p = if cap = k then some ⟨b, off, none⟩ else some ⟨b, off + k, none⟩) (hn : n = L.length - k) : IsF w B (.slice p n (cap - k)) (L.drop k) := by
  have hl : (L.drop k).length = n := by rw [List.length_drop, hn]
  by_cases hc : cap = k
  · rw [if_pos hc] at hp
    refine .inr ⟨b, off, cap - k, by rw [hl, hp], h1, h2, by omega, fun j hj => by omega⟩
  · rw [if_neg hc] at hp
    refine .inr ⟨b, off + k, cap - k, by rw [hl, hp], h1, h2, by omega, fun j hj => ?_⟩
    rw [List.length_drop] at hj
    rw [Nat.add_assoc, h4 (k + j) (by omega), List.getElem_drop]
theorem dlast_none (N : Nat) (B : Nat → Prop) (v : Value) (w : World) (H : IsF w B v []) :
    Calls Try.prog 28 #[docV N v] w fun e w' => e = .returned (.tuple #[docV N v, .int .i64 0, .bool false]) ∧ Below w.heap.size w w' := by
  obtain ⟨p, cap, rfl, hcap⟩ := H.shape
  clear H
  rw [List.length_nil] at hcap ⊢
  go_enter Try.func28, Try.ntmps28
  go_wp2
  refine bodyPost_ret (v := .tuple #[docV N (.slice p 0 cap), .int .i64 0, .bool false]) (by simp [results, Try.results28, go_sem]) rfl ⟨rfl, ?_⟩
  (repeat (first | (with_reducible exact Below.refl _ _) | ((with_reducible refine below_alloc ?_ ?_ _); · (first | omega | (simp; done) | (simp; omega))) | ((with_reducible refine below_setCell ?_ ?_ _); · (first | omega | (simp; done) | (simp; omega))) | (with_reducible refine Below.drew ?_) | (with_reducible refine below_drewN ?_ _) | ((with_reducible refine below_call (by assumption) ?_ ?_); · (first | omega | (simp; done) | (simp; omega)))))
end Go.Proofs.Ytphgilgmoeliaaa
