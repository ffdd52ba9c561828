/- Layer 12, the program's: whether a state may be, how much it lacks, what is left, the texts of some bytes. -/
import Derived.Test.YtackinamkibmlaaDoorD12MB
import Derived.Test.YtackinamkibmlaaDoorR11AG
import Derived.Test.YtackinamkibmlaaDoorS10ZS
import Derived.Test.YtackinamkibmlaaDoorBld
namespace Go.Proofs.YtackinamkibmlaaDoor
open Go.RowKit
set_option linter.unusedVariables false
set_option linter.unusedSimpArgs false

set_option maxRecDepth 100000 in
set_option maxHeartbeats 4000000 in
theorem dcheck_any (s : Ds) (w : World) (hs : s.buf.size ≤ 1000000) : Calls Tryd.prog 7 #[dsV s] w fun e w' => e = .returned (.int .i64 (chkD s)) ∧ Below w.heap.size w w' := by
  obtain ⟨b, x, n⟩ := s
  have c := Lib.hid (fun W => fget_any b W hs)
  simp only [getV] at c
  have hC : chkD ⟨b, x, n⟩ = if x ≠ 0 ∧ b.size ≠ 0 then 4 else if gtE b.data.toList ≠ 3 then 5 else if n < 0 then 8 else 0 := rfl
  simp only [dsV]
  generalize gtE b.data.toList = E at c hC
  generalize gtS b.data.toList = S at c
  generalize (gtN b.data.toList : Int) = G at c

  by_cases h1 : x = 0
  · subst h1
    rw [if_neg (by simp)] at hC
    by_cases h2 : E = 3
    · subst h2
      rw [if_neg (by simp)] at hC
      by_cases h3 : n < 0
      · rw [if_pos h3] at hC
        go_enter Tryd.func7, Tryd.ntmps7
        go_wp2_with fail
        refine (c.out _).mono ?_; rintro e w1 ⟨rfl, hb1⟩
        obtain ⟨hk1, hf1, hz1⟩ := bcellN (n := w.heap.size + 1) (by (try simp only [World.size_drew, World.size_alloc, World.size_setCell]); omega) hb1; have hz1_0 : w.heap.size < w1.heap.size := (by omega)
        have B1 : Below w.heap.size w w1 := by (repeat (first | (with_reducible exact Below.refl _ _) | ((with_reducible refine below_alloc ?_ ?_ _); · (first | omega | (simp; done) | (simp; omega))) | ((with_reducible refine below_setCell ?_ ?_ _); · (first | omega | (simp; done) | (simp; omega))) | (with_reducible refine Below.drew ?_) | (with_reducible refine below_drewN ?_ _) | ((with_reducible refine below_call (by assumption) ?_ ?_); · (first | omega | (simp; done) | (simp; omega)))))
        go_wp2
        go_ret
        exact ⟨by rw [hC]; rfl, B1⟩
      · rw [if_neg h3] at hC
        go_enter Tryd.func7, Tryd.ntmps7
        go_wp2_with fail
        refine (c.out _).mono ?_; rintro e w1 ⟨rfl, hb1⟩
        obtain ⟨hk1, hf1, hz1⟩ := bcellN (n := w.heap.size + 1) (by (try simp only [World.size_drew, World.size_alloc, World.size_setCell]); omega) hb1; have hz1_0 : w.heap.size < w1.heap.size := (by omega)
        have B1 : Below w.heap.size w w1 := by (repeat (first | (with_reducible exact Below.refl _ _) | ((with_reducible refine below_alloc ?_ ?_ _); · (first | omega | (simp; done) | (simp; omega))) | ((with_reducible refine below_setCell ?_ ?_ _); · (first | omega | (simp; done) | (simp; omega))) | (with_reducible refine Below.drew ?_) | (with_reducible refine below_drewN ?_ _) | ((with_reducible refine below_call (by assumption) ?_ ?_); · (first | omega | (simp; done) | (simp; omega)))))
        go_wp2
        go_ret
        exact ⟨by rw [hC]; rfl, B1⟩
    · rw [if_pos h2] at hC
      have e2 : (E != 3) = true := by simp [h2]
      go_enter Tryd.func7, Tryd.ntmps7
      go_wp2_with fail
      refine (c.out _).mono ?_; rintro e w1 ⟨rfl, hb1⟩
      have B1 : Below w.heap.size w w1 := by (repeat (first | (with_reducible exact Below.refl _ _) | ((with_reducible refine below_alloc ?_ ?_ _); · (first | omega | (simp; done) | (simp; omega))) | ((with_reducible refine below_setCell ?_ ?_ _); · (first | omega | (simp; done) | (simp; omega))) | (with_reducible refine Below.drew ?_) | (with_reducible refine below_drewN ?_ _) | ((with_reducible refine below_call (by assumption) ?_ ?_); · (first | omega | (simp; done) | (simp; omega)))))
      go_wp2
      go_ret
      exact ⟨by rw [hC]; rfl, B1⟩
  · have e1 : (x != 0) = true := by simp [h1]
    have hq : (b.toList == (⟨#[]⟩ : ByteArray).toList) = decide (b = ⟨#[]⟩) := str_beq b ⟨#[]⟩
    by_cases h0 : b = ⟨#[]⟩
    · subst h0
      rw [if_neg (fun h => h.2 rfl)] at hC
      by_cases h2 : E = 3
      · subst h2
        rw [if_neg (by simp)] at hC
        by_cases h3 : n < 0
        · rw [if_pos h3] at hC
          go_enter Tryd.func7, Tryd.ntmps7
          go_wp2_with fail
          refine (c.out _).mono ?_; rintro e w1 ⟨rfl, hb1⟩
          obtain ⟨hk1, hf1, hz1⟩ := bcellN (n := w.heap.size + 1) (by (try simp only [World.size_drew, World.size_alloc, World.size_setCell]); omega) hb1; have hz1_0 : w.heap.size < w1.heap.size := (by omega)
          have B1 : Below w.heap.size w w1 := by (repeat (first | (with_reducible exact Below.refl _ _) | ((with_reducible refine below_alloc ?_ ?_ _); · (first | omega | (simp; done) | (simp; omega))) | ((with_reducible refine below_setCell ?_ ?_ _); · (first | omega | (simp; done) | (simp; omega))) | (with_reducible refine Below.drew ?_) | (with_reducible refine below_drewN ?_ _) | ((with_reducible refine below_call (by assumption) ?_ ?_); · (first | omega | (simp; done) | (simp; omega)))))
          go_wp2
          go_ret
          exact ⟨by rw [hC]; rfl, B1⟩
        · rw [if_neg h3] at hC
          go_enter Tryd.func7, Tryd.ntmps7
          go_wp2_with fail
          refine (c.out _).mono ?_; rintro e w1 ⟨rfl, hb1⟩
          obtain ⟨hk1, hf1, hz1⟩ := bcellN (n := w.heap.size + 1) (by (try simp only [World.size_drew, World.size_alloc, World.size_setCell]); omega) hb1; have hz1_0 : w.heap.size < w1.heap.size := (by omega)
          have B1 : Below w.heap.size w w1 := by (repeat (first | (with_reducible exact Below.refl _ _) | ((with_reducible refine below_alloc ?_ ?_ _); · (first | omega | (simp; done) | (simp; omega))) | ((with_reducible refine below_setCell ?_ ?_ _); · (first | omega | (simp; done) | (simp; omega))) | (with_reducible refine Below.drew ?_) | (with_reducible refine below_drewN ?_ _) | ((with_reducible refine below_call (by assumption) ?_ ?_); · (first | omega | (simp; done) | (simp; omega)))))
          go_wp2
          go_ret
          exact ⟨by rw [hC]; rfl, B1⟩
      · rw [if_pos h2] at hC
        have e2 : (E != 3) = true := by simp [h2]
        go_enter Tryd.func7, Tryd.ntmps7
        go_wp2_with fail
        refine (c.out _).mono ?_; rintro e w1 ⟨rfl, hb1⟩
        have B1 : Below w.heap.size w w1 := by (repeat (first | (with_reducible exact Below.refl _ _) | ((with_reducible refine below_alloc ?_ ?_ _); · (first | omega | (simp; done) | (simp; omega))) | ((with_reducible refine below_setCell ?_ ?_ _); · (first | omega | (simp; done) | (simp; omega))) | (with_reducible refine Below.drew ?_) | (with_reducible refine below_drewN ?_ _) | ((with_reducible refine below_call (by assumption) ?_ ?_); · (first | omega | (simp; done) | (simp; omega)))))
        go_wp2
        go_ret
        exact ⟨by rw [hC]; rfl, B1⟩
    · rw [decide_eq_false h0] at hq
      have hz : b.size ≠ 0 := fun h => h0 (by
        rw [list_sz] at h
        obtain ⟨⟨l⟩⟩ := b
        have := List.eq_nil_of_length_eq_zero h
        simp at this
        rw [this])
      rw [if_pos ⟨h1, hz⟩] at hC
      have hm : b.toList.isEmpty = false := List.isEmpty_eq_false_iff.2 (fun e => by
        rw [e, show (⟨#[]⟩ : ByteArray).toList = [] from by unfold ByteArray.toList ByteArray.toList.loop; rfl] at hq
        exact absurd hq (by decide))
      go_enter Tryd.func7, Tryd.ntmps7
      go_wp2
      go_ret
      exact ⟨rfl, by (repeat (first | (with_reducible exact Below.refl _ _) | ((with_reducible refine below_alloc ?_ ?_ _); · (first | omega | (simp; done) | (simp; omega))) | ((with_reducible refine below_setCell ?_ ?_ _); · (first | omega | (simp; done) | (simp; omega))) | (with_reducible refine Below.drew ?_) | (with_reducible refine below_drewN ?_ _) | ((with_reducible refine below_call (by assumption) ?_ ?_); · (first | omega | (simp; done) | (simp; omega)))))⟩
/-- whether a state takes bytes -/
theorem dopen_any (s : Ds) (w : World) (hs : s.buf.size ≤ 1000000) : Calls Tryd.prog 27 #[dsV s] w fun e w' => e = .returned (.bool (!offD s)) ∧ Below w.heap.size w w' := by
  have c := Lib.hid (fun W => dcheck_any s W hs)
  have hO : offD s = decide (s.bad ≠ 0 ∨ chkD s ≠ 0) := rfl
  generalize offD s = o at hO
  generalize chkD s = E at c hO
  obtain ⟨b, x, n⟩ := s
  simp only [dsV] at *
  by_cases h1 : x = 0
  · subst h1
    by_cases h2 : E = 0
    · subst h2
      simp at hO
      subst hO
      go_enter Tryd.func27, Tryd.ntmps27
      go_wp2_with fail
      refine (c.out _).mono ?_; rintro e w1 ⟨rfl, hb1⟩
      have B1 : Below w.heap.size w w1 := by (repeat (first | (with_reducible exact Below.refl _ _) | ((with_reducible refine below_alloc ?_ ?_ _); · (first | omega | (simp; done) | (simp; omega))) | ((with_reducible refine below_setCell ?_ ?_ _); · (first | omega | (simp; done) | (simp; omega))) | (with_reducible refine Below.drew ?_) | (with_reducible refine below_drewN ?_ _) | ((with_reducible refine below_call (by assumption) ?_ ?_); · (first | omega | (simp; done) | (simp; omega)))))
      go_wp2
      go_ret
      exact ⟨rfl, B1⟩
    · have e2 : (E == 0) = false := by simp [h2]
      simp [h2] at hO
      subst hO
      go_enter Tryd.func27, Tryd.ntmps27
      go_wp2_with fail
      refine (c.out _).mono ?_; rintro e w1 ⟨rfl, hb1⟩
      have B1 : Below w.heap.size w w1 := by (repeat (first | (with_reducible exact Below.refl _ _) | ((with_reducible refine below_alloc ?_ ?_ _); · (first | omega | (simp; done) | (simp; omega))) | ((with_reducible refine below_setCell ?_ ?_ _); · (first | omega | (simp; done) | (simp; omega))) | (with_reducible refine Below.drew ?_) | (with_reducible refine below_drewN ?_ _) | ((with_reducible refine below_call (by assumption) ?_ ?_); · (first | omega | (simp; done) | (simp; omega)))))
      go_wp2
      go_ret
      exact ⟨rfl, B1⟩
  · have e1 : (x == 0) = false := by simp [h1]
    simp [h1] at hO
    subst hO
    go_enter Tryd.func27, Tryd.ntmps27
    go_wp2
    go_ret
    exact ⟨rfl, by (repeat (first | (with_reducible exact Below.refl _ _) | ((with_reducible refine below_alloc ?_ ?_ _); · (first | omega | (simp; done) | (simp; omega))) | ((with_reducible refine below_setCell ?_ ?_ _); · (first | omega | (simp; done) | (simp; omega))) | (with_reducible refine Below.drew ?_) | (with_reducible refine below_drewN ?_ _) | ((with_reducible refine below_call (by assumption) ?_ ?_); · (first | omega | (simp; done) | (simp; omega)))))⟩
/-- what is left behind the last whole frame -/
theorem dleft_any (s : Ds) (b : ByteArray) (E : Int) (w : World) (hb : b.size ≤ 2000000) : Calls Tryd.prog 28 #[dsV s, .string b, .int .i64 E] w fun e w' => e = .returned (dsV (if E = 3 then ⟨b, s.bad, s.seen⟩ else ⟨⟨#[]⟩, E, s.seen⟩)) ∧ Below w.heap.size w w' := by
  have c := Lib.hid (fun W => clone_any b W (by omega))
  obtain ⟨b0, x, n⟩ := s
  simp only [dsV]
  by_cases h1 : E = 3
  · subst h1
    rw [if_pos rfl]
    go_enter Tryd.func28, Tryd.ntmps28
    go_wp2_with fail
    refine (c.out _).mono ?_; rintro e w1 ⟨rfl, hb1⟩
    obtain ⟨hk1, hf1, hz1⟩ := bcellN (n := w.heap.size + 2) (by (try simp only [World.size_drew, World.size_alloc, World.size_setCell]); omega) hb1; have hz1_0 : w.heap.size < w1.heap.size := (by omega); have hz1_1 : w.heap.size + 1 < w1.heap.size := (by omega)
    have B1 : Below w.heap.size w w1 := by (repeat (first | (with_reducible exact Below.refl _ _) | ((with_reducible refine below_alloc ?_ ?_ _); · (first | omega | (simp; done) | (simp; omega))) | ((with_reducible refine below_setCell ?_ ?_ _); · (first | omega | (simp; done) | (simp; omega))) | (with_reducible refine Below.drew ?_) | (with_reducible refine below_drewN ?_ _) | ((with_reducible refine below_call (by assumption) ?_ ?_); · (first | omega | (simp; done) | (simp; omega)))))
    go_wp2

    refine bodyPost_ret (v := .agg #[.string b, .int .i64 x, .int .i64 n]) (by simp [results, Tryd.results28, go_sem, *]) rfl ⟨rfl, ?_⟩
    (repeat (first | (with_reducible exact Below.refl _ _) | ((with_reducible refine below_alloc ?_ ?_ _); · (first | omega | (simp; done) | (simp; omega))) | ((with_reducible refine below_setCell ?_ ?_ _); · (first | omega | (simp; done) | (simp; omega))) | (with_reducible refine Below.drew ?_) | (with_reducible refine below_drewN ?_ _) | ((with_reducible refine below_call (by assumption) ?_ ?_); · (first | omega | (simp; done) | (simp; omega)))))
  · rw [if_neg h1]
    have e1 : (E != 3) = true := by simp [h1]
    go_enter Tryd.func28, Tryd.ntmps28
    go_wp2
    refine bodyPost_ret (v := .agg #[.string ⟨#[]⟩, .int .i64 E, .int .i64 n]) (by simp [results, Tryd.results28, go_sem]) rfl ⟨rfl, ?_⟩
    (repeat (first | (with_reducible exact Below.refl _ _) | ((with_reducible refine below_alloc ?_ ?_ _); · (first | omega | (simp; done) | (simp; omega))) | ((with_reducible refine below_setCell ?_ ?_ _); · (first | omega | (simp; done) | (simp; omega))) | (with_reducible refine Below.drew ?_) | (with_reducible refine below_drewN ?_ _) | ((with_reducible refine below_call (by assumption) ?_ ?_); · (first | omega | (simp; done) | (simp; omega)))))
theorem or_none (v : Nat) (h : v < 256) : bits .or .i64 0 (v : Int) = v := by
  have key : ∀ k : Fin 256, bits .or .i64 0 ((k.val : Nat) : Int) = k.val := by decide +kernel
  exact key ⟨v, h⟩
theorem len_at {b : ByteArray} (h : 1 < b.size) : lenG b.data.toList = 256 * (b[0]'(by omega)).toNat + (b[1]).toNat := by
  obtain ⟨⟨l⟩⟩ := b
  match l, h with
  | x :: y :: t, _ => rfl
set_option maxRecDepth 100000 in
set_option maxHeartbeats 4000000 in
theorem dneed_any (s : Ds) (w : World) (hs : s.buf.size ≤ 1000000) : Calls Tryd.prog 13 #[dsV s] w fun e w' => e = .returned (.int .i64 (needD s)) ∧ Below w.heap.size w w' := by
  have c := Lib.hid (fun W => dopen_any s W hs)
  by_cases h1 : offD s = true
  · have hN : needD s = 0 := by unfold needD; rw [if_pos h1]
    rw [h1] at c
    rw [hN]
    obtain ⟨b, x, n⟩ := s
    simp only [dsV] at *
    clear h1 hN
    go_enter Tryd.func13, Tryd.ntmps13
    go_wp2_with fail
    refine (c.out _).mono ?_; rintro e w1 ⟨rfl, hb1⟩
    have B1 : Below w.heap.size w w1 := by (repeat (first | (with_reducible exact Below.refl _ _) | ((with_reducible refine below_alloc ?_ ?_ _); · (first | omega | (simp; done) | (simp; omega))) | ((with_reducible refine below_setCell ?_ ?_ _); · (first | omega | (simp; done) | (simp; omega))) | (with_reducible refine Below.drew ?_) | (with_reducible refine below_drewN ?_ _) | ((with_reducible refine below_call (by assumption) ?_ ?_); · (first | omega | (simp; done) | (simp; omega)))))
    go_wp2
    go_ret
    exact ⟨rfl, B1⟩
  · have hN : needD s = if s.buf.size < 2 then 2 - (s.buf.size : Int) else 2 + (lenG s.buf.data.toList : Int) - s.buf.size := by unfold needD; rw [if_neg h1]
    have h3 : gtE s.buf.data.toList = 3 := by
      unfold offD at h1
      have hk : chkD s = 0 := by
        apply Classical.byContradiction
        intro h
        exact h1 (by simp [h])
      unfold chkD at hk
      apply Classical.byContradiction
      intro h
      by_cases q : s.bad ≠ 0 ∧ s.buf.size ≠ 0
      · rw [if_pos q] at hk; cases hk
      · rw [if_neg q, if_pos h] at hk; cases hk
    rw [show offD s = false by simpa using h1] at c
    obtain ⟨b, x, n⟩ := s
    simp only [dsV] at *
    by_cases h2 : b.size < 2
    · rw [if_pos h2] at hN
      have hw : IntKind.i64.wrap (2 - (b.size : Int)) = 2 - b.size := IntWalk.i64_in _ (by omega)
      have h2' : (b.size : Int) < 2 := by omega
      go_enter Tryd.func13, Tryd.ntmps13
      go_wp2_with fail
      refine (c.out _).mono ?_; rintro e w1 ⟨rfl, hb1⟩
      obtain ⟨hk1, hf1, hz1⟩ := bcellN (n := w.heap.size + 1) (by (try simp only [World.size_drew, World.size_alloc, World.size_setCell]); omega) hb1; have hz1_0 : w.heap.size < w1.heap.size := (by omega)
      have B1 : Below w.heap.size w w1 := by (repeat (first | (with_reducible exact Below.refl _ _) | ((with_reducible refine below_alloc ?_ ?_ _); · (first | omega | (simp; done) | (simp; omega))) | ((with_reducible refine below_setCell ?_ ?_ _); · (first | omega | (simp; done) | (simp; omega))) | (with_reducible refine Below.drew ?_) | (with_reducible refine below_drewN ?_ _) | ((with_reducible refine below_call (by assumption) ?_ ?_); · (first | omega | (simp; done) | (simp; omega)))))
      go_wp2
      go_ret
      exact ⟨by rw [hN]; rfl, B1⟩
    · rw [if_neg h2] at hN
      have h2' : ¬ (b.size : Int) < 2 := by omega
      have i0 : 0 < b.size := by omega
      have i1 : 1 < b.size := by omega
      have hl : lenG b.data.toList = 256 * (b[0]).toNat + (b[1]).toNat := len_at i1
      obtain ⟨hb0, hlb⟩ : b[0] = 0 ∧ (lenG b.data.toList : Int) = ((b[1]).toNat : Int) := by
        rcases gt_lack h3 with q | ⟨q1, q2, q3⟩
        · rw [← list_sz] at q; omega
        · have q4 : (b[0]).toNat = 0 := by omega
          exact ⟨UInt8.toNat.inj q4, by omega⟩
      rw [hlb] at hN
      have hlt := (b[1]).toNat_lt
      clear hl hlb h3
      have hor : bits .or .i64 0 ((b[1]).toNat : Int) = (b[1]).toNat := or_none _ hlt
      have hor' : bits .or .i64 (0 * 256) ((b[1]).toNat : Int) = (b[1]).toNat := or_none _ hlt
      have hw0 : IntKind.i64.wrap ((b[1]).toNat : Int) = (b[1]).toNat := IntWalk.i64_in _ (by omega)
      have hw1 : IntKind.i64.wrap (2 + ((b[1]).toNat : Int)) = 2 + (b[1]).toNat := IntWalk.i64_in _ (by omega)
      have hw2 : IntKind.i64.wrap (2 + ((b[1]).toNat : Int) - b.size) = 2 + (b[1]).toNat - b.size := IntWalk.i64_in _ (by omega)
      go_enter Tryd.func13, Tryd.ntmps13
      go_wp2_with fail
      refine (c.out _).mono ?_; rintro e w1 ⟨rfl, hb1⟩
      obtain ⟨hk1, hf1, hz1⟩ := bcellN (n := w.heap.size + 1) (by (try simp only [World.size_drew, World.size_alloc, World.size_setCell]); omega) hb1; have hz1_0 : w.heap.size < w1.heap.size := (by omega)
      have B1 : Below w.heap.size w w1 := by (repeat (first | (with_reducible exact Below.refl _ _) | ((with_reducible refine below_alloc ?_ ?_ _); · (first | omega | (simp; done) | (simp; omega))) | ((with_reducible refine below_setCell ?_ ?_ _); · (first | omega | (simp; done) | (simp; omega))) | (with_reducible refine Below.drew ?_) | (with_reducible refine below_drewN ?_ _) | ((with_reducible refine below_call (by assumption) ?_ ?_); · (first | omega | (simp; done) | (simp; omega)))))
      go_wp2
      go_region_with (fail)
      all_goals go_wp2
      all_goals go_ret
      all_goals exact ⟨by rw [hN]; rfl, B1.drew⟩
def szV : Value → Nat
  | .string b => b.size
  | _ => 0
theorem row3_farD {W w1 : World} {n b : Nat} {x y z : Value} (h : Row3 W b x y z) (hb : Below n W w1) (hn : b < n) : Row3 w1 b x y z :=
  ⟨⟨(hb.cell (p := ⟨b, 0, none⟩) hn).trans h.1.1, (hb.cell (p := ⟨b, 1, none⟩) hn).trans h.1.2.1, (hb.cell (p := ⟨b, 2, none⟩) hn).trans h.1.2.2⟩,
    (hb.frozen (p := ⟨b, 0, none⟩) hn).trans h.2.1, (hb.frozen (p := ⟨b, 1, none⟩) hn).trans h.2.2.1, (hb.frozen (p := ⟨b, 2, none⟩) hn).trans h.2.2.2⟩
theorem ownS_set {w : World} {B : Nat} {v : Value} {l : List ByteArray} (h : OwnS w B v l) {p : Addr} (hp : p.block < B) (u : Value) : OwnS (w.setCell p u) B v l := by
  obtain ⟨h1, h2⟩ := h
  refine ⟨h1, ?_⟩
  rcases h2 with h2 | ⟨g, cap, cur, hv, hB, hg, r⟩
  · exact .inl h2
  · exact .inr ⟨g, cap, cur, hv, hB, (Below.heap_setCell _ _ _ g (by omega)).trans hg, r⟩
theorem wrpD_next (n : Int) (k : Nat) : IntKind.i64.wrap (wrpD n k + 1) = wrpD n (k + 1) := by
  unfold wrpD
  rw [if_neg (by omega : ¬ k + 1 = 0)]
  by_cases h : k = 0
  · rw [if_pos h, h]; rfl
  · rw [if_neg h]
    simp [IntKind.wrap, IntKind.bits, IntKind.signed]
    omega
/-- the texts that are off, and what is behind -/
theorem pr_off {L l : List UInt8} {ts : List ByteArray} (h : pr L = (ts ++ (pr l).1, (pr l).2)) (hE : gtE l = 0) : pr L = ((ts ++ [gtS l]) ++ (pr (l.drop (gtN l))).1, (pr (l.drop (gtN l))).2) := by
  rw [h, pr_yes hE]
  simp
theorem pr_left {L l : List UInt8} {ts : List ByteArray} (h : pr L = (ts ++ (pr l).1, (pr l).2)) (hE : ¬ gtE l = 0) : pr L = (ts, l) := by
  rw [h, pr_no hE, List.append_nil]
theorem ext_dropD {b : ByteArray} {n : Nat} : (b.extract n b.size).data.toList = b.data.toList.drop n := by
  rw [ByteArray.data_extract]
  simp
  rw [List.take_of_length_le]
  simp
set_option maxRecDepth 100000 in
set_option maxHeartbeats 4000000 in
theorem dtexts_any (s : Ds) (b : ByteArray) (w : World) (hs : s.buf.size ≤ 1000000) (hb : b.size ≤ 1000000) : Calls Tryd.prog 14 #[dsV s, .string b] w fun e w' => ∃ v, e = .returned (.tuple #[dsV (txS s b.data.toList), v]) ∧ OwnS w' w.heap.size v (txL s b.data.toList) ∧ Below w.heap.size w w' := by
  have c := Lib.hid (fun W => dopen_any s W hs)
  by_cases h1 : offD s = true
  · have hS : txS s b.data.toList = s := by unfold txS; rw [if_pos h1]
    have hL : txL s b.data.toList = [] := by unfold txL; rw [if_pos h1]
    rw [h1] at c
    rw [hS, hL]
    obtain ⟨u, x, n⟩ := s
    simp only [dsV] at *
    clear h1 hS hL
    go_enter Tryd.func14, Tryd.ntmps14
    go_wp2_with fail
    refine (c.out _).mono ?_; rintro e w1 ⟨rfl, hb1⟩
    obtain ⟨hk1, hf1, hz1⟩ := bcellN (n := w.heap.size + 2) (by (try simp only [World.size_drew, World.size_alloc, World.size_setCell]); omega) hb1; have hz1_0 : w.heap.size < w1.heap.size := (by omega); have hz1_1 : w.heap.size + 1 < w1.heap.size := (by omega)
    have B1 : Below w.heap.size w w1 := by (repeat (first | (with_reducible exact Below.refl _ _) | ((with_reducible refine below_alloc ?_ ?_ _); · (first | omega | (simp; done) | (simp; omega))) | ((with_reducible refine below_setCell ?_ ?_ _); · (first | omega | (simp; done) | (simp; omega))) | (with_reducible refine Below.drew ?_) | (with_reducible refine below_drewN ?_ _) | ((with_reducible refine below_call (by assumption) ?_ ?_); · (first | omega | (simp; done) | (simp; omega)))))
    go_wp2
    refine bodyPost_ret (v := .tuple #[.agg #[.string u, .int .i64 x, .int .i64 n], .slice none 0 0]) (by simp [results, Tryd.results14, go_sem, *]) rfl ⟨_, rfl, OwnS.nil _ _, ?_⟩
    (repeat (first | (with_reducible exact Below.refl _ _) | ((with_reducible refine below_alloc ?_ ?_ _); · (first | omega | (simp; done) | (simp; omega))) | ((with_reducible refine below_setCell ?_ ?_ _); · (first | omega | (simp; done) | (simp; omega))) | (with_reducible refine Below.drew ?_) | (with_reducible refine below_drewN ?_ _) | ((with_reducible refine below_call (by assumption) ?_ ?_); · (first | omega | (simp; done) | (simp; omega)))))
  · have hS : txS s b.data.toList = stepD (s.buf.data.toList ++ b.data.toList) s.seen := by unfold txS; rw [if_neg h1]
    have hL : txL s b.data.toList = (pr (s.buf.data.toList ++ b.data.toList)).1 := by unfold txL; rw [if_neg h1]
    have hx : s.bad = 0 := by
      apply Classical.byContradiction
      intro h
      exact h1 (by unfold offD; simp [h])
    rw [show offD s = false by simpa using h1] at c
    rw [hS, hL]
    obtain ⟨u, x, n⟩ := s
    simp only [dsV] at *
    subst hx
    have hz0 : (u ++ b).size ≤ 2000000 := by rw [ByteArray.size_append]; omega
    have hd0 : (u ++ b).data.toList = u.data.toList ++ b.data.toList := by simp
    rw [← hd0]
    clear h1 hS hL
    have X0 : Hid (∀ t t', Row3 ((w.alloc (.cells #[.string u, .int .i64 0, .int .i64 n] t)).alloc (.cells #[.string ⟨#[]⟩, .int .i64 0, .int .i64 0] t')) w.heap.size (.string u) (.int .i64 0) (.int .i64 n) ∧ Row3 ((w.alloc (.cells #[.string u, .int .i64 0, .int .i64 n] t)).alloc (.cells #[.string ⟨#[]⟩, .int .i64 0, .int .i64 0] t')) (w.heap.size + 1) (.string ⟨#[]⟩) (.int .i64 0) (.int .i64 0)) := Lib.hid (fun t t' => by simp [Row3, go_sem])
    go_enter Tryd.func14, Tryd.ntmps14
    go_wp2_with fail
    refine (c.out _).mono ?_; rintro e w1 ⟨rfl, hb1⟩
    have B1 : Below w.heap.size w w1 := by (repeat (first | (with_reducible exact Below.refl _ _) | ((with_reducible refine below_alloc ?_ ?_ _); · (first | omega | (simp; done) | (simp; omega))) | ((with_reducible refine below_setCell ?_ ?_ _); · (first | omega | (simp; done) | (simp; omega))) | (with_reducible refine Below.drew ?_) | (with_reducible refine below_drewN ?_ _) | ((with_reducible refine below_call (by assumption) ?_ ?_); · (first | omega | (simp; done) | (simp; omega)))))
    have Y1 := (X0.out _ _).1.call hb1 (by simp; omega)
    have Z1 := (X0.out _ _).2.call hb1 (by simp)
    have hz1 : w.heap.size + 2 ≤ w1.heap.size := by have := hb1.size; simpa using this
    clear X0 hb1 c
    obtain ⟨⟨c0, c1, c2⟩, f0, f1, f2⟩ := Y1
    go_wp2
    generalize hLe : u ++ b = L at hz0 hd0 ⊢
    have HLe := Lib.hid hLe
    clear hLe
    go_loopw [1, 6] (fun bv tv wr => ∃ (l : ByteArray) (ts : List ByteArray), bv = .string l ∧ pr L.data.toList = (ts ++ (pr l.data.toList).1, (pr l.data.toList).2) ∧ l.size + 3 * ts.length ≤ 2000000 ∧ OwnS wr (w.heap.size + 2) tv ts ∧ Row3 wr w.heap.size (.string u) (.int .i64 0) (.int .i64 (wrpD n ts.length)) ∧ Row3 wr (w.heap.size + 1) (.string ⟨#[]⟩) (.int .i64 0) (.int .i64 0) ∧ Below w.heap.size w wr ∧ w.heap.size + 2 ≤ wr.heap.size) (fun bv _ _ => szV bv)
    case atStart => exact ⟨L, [], rfl, by simp, by simp; exact hz0, OwnS.nil _ _, ⟨⟨c0, c1, c2⟩, f0, f1, f2⟩, Z1, B1, hz1⟩
    case round =>
      clear c0 c1 c2 f0 f1 f2 Z1 B1 hz1
      obtain ⟨l, ts, rfl, hp, hsz, ho, hY, hZ, hB, hz⟩ := hrel
      have HP := Lib.hid hp
      have HO := Lib.hid ho
      have HY := Lib.hid hY
      have HZ := Lib.hid hZ
      have hlz := list_sz l
      obtain ⟨⟨c0, c1, c2⟩, f0, f1, f2⟩ := hY
      have c := Lib.hid (fun W => fget_big l W (by omega))
      simp only [getV] at c
      clear hp ho hZ
      by_cases hE : gtE l.data.toList = 0
      · obtain ⟨g1, g2, g3, g4, g5⟩ := gt_bwd hE
        have hpos := g1.1
        have G := Lib.hid (pr_off HP.out hE)
        rw [hE] at c
        generalize gtS l.data.toList = S at c G g1 g3 hpos
        generalize hN : gtN l.data.toList = N at c G g4 g5
        have g6 : (N : Int) ≤ l.size := by omega
        have hts : ts.length ≤ 1000000 := by omega
        have g7 : 3 ≤ N := by omega
        clear hE g1 g2 g3 g4 g5 hN hpos hlz
        have hw : IntKind.i64.wrap (wrpD n ts.length + 1) = wrpD n (ts.length + 1) := wrpD_next _ _
        generalize wrpD n ts.length = m at c2 hw HY
        go_wp2_with fail
        refine (c.out _).mono ?_; rintro e w2 ⟨rfl, hb2⟩
        have d0 := (hb2.cell (p := ⟨w.heap.size, 0, none⟩) (by show w.heap.size < _; omega)).trans c0
        have d1 := (hb2.cell (p := ⟨w.heap.size, 1, none⟩) (by show w.heap.size < _; omega)).trans c1
        have d2 := (hb2.cell (p := ⟨w.heap.size, 2, none⟩) (by show w.heap.size < _; omega)).trans c2
        have e2 := (hb2.frozen (p := ⟨w.heap.size, 2, none⟩) (by show w.heap.size < _; omega)).trans f2
        have hz2 := Nat.le_trans hz hb2.size
        go_wp2_with (at_builtin; (refine app_one rfl _ _ rfl (w.heap.size + 2) ts _ S ⟨w2.heap.size, 0, none⟩ rfl ((HO.out.call hb2).alloc _) rfl (by simp [go_sem]) (by omega) (by simp; omega) ?_; intro v5 w5 hown hbel; have hbw : Below (w.heap.size + 2) w2 w5 := (below_alloc (by omega) (Below.refl _ _) _).trans hbel; have x0 := (hbw.cell (p := ⟨w.heap.size, 0, none⟩) (by show w.heap.size < _; omega)).trans d0; have x1 := (hbw.cell (p := ⟨w.heap.size, 1, none⟩) (by show w.heap.size < _; omega)).trans d1; have x2 := (hbw.cell (p := ⟨w.heap.size, 2, none⟩) (by show w.heap.size < _; omega)).trans d2; have y2 := (hbw.frozen (p := ⟨w.heap.size, 2, none⟩) (by show w.heap.size < _; omega)).trans e2))
        go_roundw
        case rel =>
          refine ⟨l.extract N l.size, ts ++ [S], rfl, ?_, ?_, ownS_set hown (by show w.heap.size < _; omega) _, ?_, ?_, ?_, ?_⟩
          · rw [ext_dropD]; exact G.out
          · simp; omega
          · have HY5 := row3_farD (HY.out.call hb2 (by omega)) hbw (by omega)
            have := HY5.set2 (.int .i64 (wrpD n (ts.length + 1)))
            simpa using this
          · exact (row3_farD (HZ.out.call hb2 (by omega)) hbw (by omega)).other (p := ⟨w.heap.size, 2, none⟩) (by simp) _
          · exact ((hB.trans (hb2.mono hB.size)).trans (hbw.mono (by omega))).setCell (p := ⟨w.heap.size, 2, none⟩) (Nat.le_refl _) _
          · simpa using Nat.le_trans hz2 hbw.size
        case measure => simp [szV]; omega
      · have H := Lib.hid (pr_left HP.out hE)
        have cL := Lib.hid (fun W => dleft_any ⟨u, 0, wrpD n ts.length⟩ l (gtE l.data.toList) W (by omega))
        have e0 : (gtE l.data.toList != 0) = true := by simp [hE]
        have HD : Hid (stepD L.data.toList n = (if gtE l.data.toList = 3 then ⟨l, 0, wrpD n ts.length⟩ else ⟨⟨#[]⟩, gtE l.data.toList, wrpD n ts.length⟩)) := Lib.hid (by unfold stepD; rw [H.out])
        generalize gtE l.data.toList = E at c cL e0 HD
        generalize gtS l.data.toList = S at c
        generalize (gtN l.data.toList : Int) = N at c
        generalize (if E = 3 then (⟨l, 0, wrpD n ts.length⟩ : Ds) else ⟨⟨#[]⟩, E, wrpD n ts.length⟩) = r at cL HD
        obtain ⟨r0, r1, r2⟩ := r
        simp only [dsV] at cL
        generalize wrpD n ts.length = m at c2 HY cL
        clear hE hlz
        go_wp2_with fail
        refine (c.out _).mono ?_; rintro e w2 ⟨rfl, hb2⟩
        have d0 := (hb2.cell (p := ⟨w.heap.size, 0, none⟩) (by show w.heap.size < _; omega)).trans c0
        have d1 := (hb2.cell (p := ⟨w.heap.size, 1, none⟩) (by show w.heap.size < _; omega)).trans c1
        have d2 := (hb2.cell (p := ⟨w.heap.size, 2, none⟩) (by show w.heap.size < _; omega)).trans c2
        have hz2 := Nat.le_trans hz hb2.size
        go_wp2_with fail
        refine (cL.out _).mono ?_; rintro e w3 ⟨rfl, hb3⟩
        have hz3 := Nat.le_trans hz2 hb3.size
        have Z3 := (HZ.out.call hb2 (by omega)).call hb3 (by omega)
        have HO3 := Lib.hid ((HO.out.call hb2).call hb3)
        have B3 : Below w.heap.size w w3 := (hB.trans (hb2.mono hB.size)).trans (hb3.mono (Nat.le_trans hB.size hb2.size))
        obtain ⟨⟨z0, z1, z2⟩, k0, k1, k2⟩ := Z3
        go_wp2
        refine bodyPost_ret (v := .tuple #[.agg #[.string r0, .int .i64 r1, .int .i64 r2], u6]) (by simp [results, Tryd.results14, go_sem, *]) rfl ⟨_, by rw [HLe.out, HD.out], ?_, ?_⟩
        · rw [HLe.out, H.out]
          exact (ownS_set (p := ⟨w.heap.size + 1, 2, none⟩) (ownS_set (p := ⟨w.heap.size + 1, 1, none⟩) (ownS_set (p := ⟨w.heap.size + 1, 0, none⟩) HO3.out (by show w.heap.size + 1 < _; omega) _) (by show w.heap.size + 1 < _; omega) _) (by show w.heap.size + 1 < _; omega) _).mono (B' := w.heap.size) (by omega)
        · (repeat (first | (with_reducible exact Below.refl _ _) | ((with_reducible refine below_alloc ?_ ?_ _); · (first | omega | (simp; done) | (simp; omega))) | ((with_reducible refine below_setCell ?_ ?_ _); · (first | omega | (simp; done) | (simp; omega))) | (with_reducible refine Below.drew ?_) | (with_reducible refine below_drewN ?_ _) | ((with_reducible refine below_call (by assumption) ?_ ?_); · (first | omega | (simp; done) | (simp; omega)))))
end Go.Proofs.YtackinamkibmlaaDoor
namespace Go.Proofs.YtackinamkibmlaaDoor
open Go.RowKit
set_option linter.unusedVariables false
set_option linter.unusedSimpArgs false

theorem made_rows {α : Type} {z : Nat} {cs : α → List Value} (hz : ∀ x, (cs x).length = z) (pos : 0 < z) {zv : Array Value} {x0 : α} (h0 : zv.toList = cs x0) (n : Nat) :
    (madeCells zv (n * z)).toList = (List.replicate n x0).flatMap cs := by
  have hsz : zv.size = z := by rw [← Array.length_toList, h0, hz]
  apply List.ext_getElem?
  intro j
  by_cases hj : j < n * z
  · have hjz : j / z < (List.replicate n x0).length := by
      rw [List.length_replicate]
      exact Nat.div_lt_of_lt_mul (by rw [Nat.mul_comm]; exact hj)
    have hjm : j % z < z := Nat.mod_lt _ pos
    have he : j = j / z * z + j % z := by rw [Nat.mul_comm]; exact (Nat.div_add_mod j z).symm
    have h2 := flat_at hz (List.replicate n x0) (j / z) (j % z) hjz hjm
    rw [← he, List.getElem_replicate, ← h0] at h2
    rw [h2]
    have hl : (madeCells zv (n * z)).toList[j]? = some (zv[j % zv.size]!) := by simp [madeCells, hj]
    rw [hl, hsz]
    have hq : j % z < zv.size := by omega
    simp [hq]
  · rw [List.getElem?_eq_none (by rw [Array.length_toList, size_madeCells]; omega), List.getElem?_eq_none (by rw [flat_sz hz, List.length_replicate]; omega)]
/-- nine cells are laid over an item's -/
theorem item_set (x : It) (v0 v1 v2 v3 v4 v5 v6 v7 v8 : Value) (hx : itC x = [v0, v1, v2, v3, v4, v5, v6, v7, v8]) : ∀ (M : List It) (k : Nat), k < M.length →
    (((((((((M.flatMap itC).set (k * 9) v0).set (k * 9 + 1) v1).set (k * 9 + 2) v2).set (k * 9 + 3) v3).set (k * 9 + 4) v4).set (k * 9 + 5) v5).set (k * 9 + 6) v6).set (k * 9 + 7) v7).set (k * 9 + 8) v8 = (M.set k x).flatMap itC
  | [], _, h => by cases h
  | m :: M, 0, _ => by
    rw [List.set_cons_zero, List.flatMap_cons, List.flatMap_cons, hx]
    rfl
  | m :: M, k + 1, h => by
    have ih := item_set x v0 v1 v2 v3 v4 v5 v6 v7 v8 hx M k (by simpa using h)
    rw [List.set_cons_succ, List.flatMap_cons, List.flatMap_cons, ← ih]
    simp only [show ∀ c, (k + 1) * 9 + c = k * 9 + c + 9 from fun c => by omega, show (k + 1) * 9 = k * 9 + 9 from by omega]
    rfl
theorem item_put {w : World} {B g n cap k : Nat} {M : List It} {x : It} {v0 v1 v2 v3 v4 v5 v6 v7 v8 : Value} (h : w.ownsRow B 45 9 (.slice (some ⟨g, 0, none⟩) n cap) n (M.flatMap itC)) (hk : k < M.length) (hx : itC x = [v0, v1, v2, v3, v4, v5, v6, v7, v8]) :
    (((((((((w.setCell ⟨g, k * 9, none⟩ v0).setCell ⟨g, k * 9 + 1, none⟩ v1).setCell ⟨g, k * 9 + 2, none⟩ v2).setCell ⟨g, k * 9 + 3, none⟩ v3).setCell ⟨g, k * 9 + 4, none⟩ v4).setCell ⟨g, k * 9 + 5, none⟩ v5).setCell ⟨g, k * 9 + 6, none⟩ v6).setCell ⟨g, k * 9 + 7, none⟩ v7).setCell ⟨g, k * 9 + 8, none⟩ v8).ownsRow B 45 9 (.slice (some ⟨g, 0, none⟩) n cap) n ((M.set k x).flatMap itC) := by
  rw [← item_set x v0 v1 v2 v3 v4 v5 v6 v7 v8 hx M k hk]
  exact (((((((((h.stored _ v0).1.stored _ v1).1.stored _ v2).1.stored _ v3).1.stored _ v4).1.stored _ v5).1.stored _ v6).1.stored _ v7).1.stored _ v8).1
theorem row_cell {w : World} {B : Nat} {te : TypeId} {z g n cap : Nat} {xs : List Value} (h : w.ownsRow B te z (.slice (some ⟨g, 0, none⟩) n cap) n xs) (hx : xs.length = n * z) {j : Nat} (hj : j < n * z) : ∃ u, w.cell? ⟨g, j, none⟩ = some u :=
  ⟨xs[j], by rw [h.cellAt j hj]; exact List.getElem?_eq_getElem (by omega)⟩
def halfD (l : List ByteArray) (k : Nat) : List It := (l.take k).map itD ++ List.replicate (l.length - k) (St.nil 0, 0)
theorem halfD_len {l : List ByteArray} {k : Nat} (h : k ≤ l.length) : (halfD l k).length = l.length := by
  unfold halfD
  rw [List.length_append, List.length_map, List.length_take, List.length_replicate]
  omega
theorem halfD_next {l : List ByteArray} {k : Nat} (h : k < l.length) : (halfD l k).set k (itD l[k]) = halfD l (k + 1) := by
  unfold halfD
  have e : ((l.take k).map itD).length = k := by rw [List.length_map, List.length_take]; omega
  rw [List.set_append_right _ _ (by omega), e, Nat.sub_self, show l.length - k = (l.length - (k + 1)) + 1 by omega, List.replicate_succ, List.set_cons_zero, List.take_succ_eq_append_getElem h, List.map_append]
  simp
theorem halfD_all (l : List ByteArray) : halfD l l.length = l.map itD := by
  unfold halfD
  rw [List.take_length, Nat.sub_self, List.replicate_zero, List.append_nil]
theorem halfD_none (l : List ByteArray) : halfD l 0 = List.replicate l.length (St.nil 0, 0) := by
  unfold halfD
  rw [List.take_zero, List.map_nil, List.nil_append, Nat.sub_zero]
set_option maxRecDepth 100000 in
set_option maxHeartbeats 4000000 in
theorem ditems_any (v : Value) (l : List ByteArray) (w : World) (hT : Tabs9 w) (hv : IsS w v l) (hl : l.length ≤ 1000000) (hs : ∀ s ∈ l, s.size ≤ 1000000) :
    Calls Tryd.prog 15 #[v] w fun e w' => ∃ v', e = .returned v' ∧ OwnR 45 9 itC w' w.heap.size v' (l.map itD) ∧ Below w.heap.size w w' := by
  obtain ⟨i1, hi1, hk0, hk1, hk2⟩ := info_parts lays_own.info
  obtain ⟨N, hN⟩ : ∃ N, N = l.length := ⟨_, rfl⟩
  obtain ⟨M, hM⟩ : ∃ M, M = madeCells itZ.cells (N * i1.size) := ⟨_, rfl⟩
  have hM2 : M.toList = (halfD l 0).flatMap itC := by rw [hM, hk1, halfD_none, ← hN]; exact made_rows (x0 := ((St.nil 0, 0) : It)) itC_len (by decide) rfl N
  have hM3 : M.size = N * 9 := by rw [hM, hk1, size_madeCells]
  have hmk : ∀ W : World, (Instr.makeSlice 26 (.int .i64 (N : Int)) (.int .i64 (N : Int))).run Tryd.prog W = .ok (.slice (some ⟨W.heap.size, 0, none⟩) N N) (W.alloc (.cells M 45)) := fun W => by
    have h := run_make (P := Tryd.prog) W 26 45 i1 itZ Tryd.underlying26 hi1 hk0 .i64 .i64 (N : Int) (N : Int) (by omega) (by omega) (by rw [hk2]; omega) (by omega)
    simp only [Int.toNat_natCast] at h
    rw [← hM] at h
    exact h
  obtain ⟨p, cap, rfl, hp⟩ := hv
  have hst : (w.alloc (.cells M 45)).ownsRow w.heap.size 45 9 (.slice (some ⟨w.heap.size, 0, none⟩) N N) N ((halfD l 0).flatMap itC) := by
    rw [← hM2]
    exact World.ownsRow_lit w M N (Nat.le_refl _) (by unfold maxLen; omega) hM3
  have Hst := Lib.hid hst
  have HP := Lib.hid hp
  have Hs := Lib.hid hs
  have HN := Lib.hid hN
  rw [← hN]
  clear hM hM2 hM3 hp hst hs
  have hNl : N ≤ 1000000 := by omega
  clear hN hl
  go_enter Tryd.func15, Tryd.ntmps15
  go_wp2
  go_loopw [11] (fun i wr => ∃ k : Nat, i = .int .i64 k ∧ k ≤ N ∧ wr.ownsRow w.heap.size 45 9 (.slice (some ⟨w.heap.size, 0, none⟩) N N) N ((halfD l k).flatMap itC) ∧ Below w.heap.size w wr) (fun i _ => N - (intOf i).toNat)
  case atStart => exact ⟨0, rfl, by omega, Hst.out, by (repeat (first | (with_reducible exact Below.refl _ _) | ((with_reducible refine below_alloc ?_ ?_ _); · (first | omega | (simp; done) | (simp; omega))) | ((with_reducible refine below_setCell ?_ ?_ _); · (first | omega | (simp; done) | (simp; omega))) | (with_reducible refine Below.drew ?_) | (with_reducible refine below_drewN ?_ _) | ((with_reducible refine below_call (by assumption) ?_ ?_); · (first | omega | (simp; done) | (simp; omega)))))⟩
  case round =>
    obtain ⟨k, rfl, hk, hown, hB⟩ := hrel
    by_cases hlt : k < N
    · have hlt' : (k : Int) < N := by omega
      have hlt2 : k < l.length := by rw [← HN.out]; exact hlt
      obtain ⟨b, off, rfl, d⟩ := HP.out k hlt2
      have c1 : wr.cell? ⟨b, off + k, none⟩ = some (.string l[k]) := (hB.cell (p := ⟨b, off + k, none⟩) (World.block_lt_of_cell? _ _ d)).trans d
      have cR := Lib.hid (fun W hT' => sread_any l[k] W hT' (Hs.out _ (List.getElem_mem hlt2)))
      have HX := Lib.hid (halfD_next hlt2)
      have hkl := halfD_len (l := l) (k := k) (by omega)
      rw [show itD l[k] = (rdS l[k], rdE l[k]) from rfl] at HX
      generalize rdS l[k] = y at cR HX
      generalize rdE l[k] = E at cR HX
      generalize l[k] = s at cR c1
      have HO := Lib.hid hown
      have hTr := Lib.hid (hT.call hB)
      clear d hown Hst
      go_wp2_with fail
      refine (cR.out _ hTr.out).mono ?_; rintro e w1 ⟨rfl, hb1⟩
      have hown1 : w1.ownsRow w.heap.size 45 9 (.slice (some ⟨w.heap.size, 0, none⟩) N N) N ((halfD l k).flatMap itC) := by
        have := OwnR.call (show OwnR 45 9 itC wr w.heap.size (.slice (some ⟨w.heap.size, 0, none⟩) N N) (halfD l k) from by unfold OwnR; rw [hkl, ← HN.out]; exact HO.out) hb1
        unfold OwnR at this
        rw [hkl, ← HN.out] at this
        exact this
      have HW := Lib.hid hown1
      have hf : ∀ j, w1.frozen? ⟨w.heap.size, j, none⟩ = false := fun j => hown1.frozenAt j
      have hxl : ((halfD l k).flatMap itC).length = N * 9 := by rw [flat_sz itC_len, hkl, ← HN.out]
      obtain ⟨a0, e0⟩ := row_cell hown1 hxl (j := k * 9) (by omega)
      obtain ⟨a1, e1⟩ := row_cell hown1 hxl (j := k * 9 + 1) (by omega)
      obtain ⟨a2, e2⟩ := row_cell hown1 hxl (j := k * 9 + 2) (by omega)
      obtain ⟨a3, e3⟩ := row_cell hown1 hxl (j := k * 9 + 3) (by omega)
      obtain ⟨a4, e4⟩ := row_cell hown1 hxl (j := k * 9 + 4) (by omega)
      obtain ⟨a5, e5⟩ := row_cell hown1 hxl (j := k * 9 + 5) (by omega)
      obtain ⟨a6, e6⟩ := row_cell hown1 hxl (j := k * 9 + 6) (by omega)
      obtain ⟨a7, e7⟩ := row_cell hown1 hxl (j := k * 9 + 7) (by omega)
      obtain ⟨a8, e8⟩ := row_cell hown1 hxl (j := k * 9 + 8) (by omega)
      have hB1 := Lib.hid (hB.trans (hb1.mono hB.size))
      clear hown1 hxl hkl
      go_wp2
      go_roundw
      case rel =>
        refine ⟨k + 1, by go_num, by omega, ?_, ?_⟩
        · rw [← HX.out]
          exact item_put HW.out (by rw [halfD_len (by omega)]; exact hlt2) rfl
        · have := hB1.out
          (repeat (first | (with_reducible exact Below.refl _ _) | ((with_reducible refine below_alloc ?_ ?_ _); · (first | omega | (simp; done) | (simp; omega))) | ((with_reducible refine below_setCell ?_ ?_ _); · (first | omega | (simp; done) | (simp; omega))) | (with_reducible refine Below.drew ?_) | (with_reducible refine below_drewN ?_ _) | ((with_reducible refine below_call (by assumption) ?_ ?_); · (first | omega | (simp; done) | (simp; omega)))))
      case measure => simp [intOf]; omega
    · obtain rfl : k = N := by omega
      have hfin : OwnR 45 9 itC wr w.heap.size (.slice (some ⟨w.heap.size, 0, none⟩) k k) (l.map itD) := by
        rw [HN.out, halfD_all, ← HN.out] at hown
        unfold OwnR
        rw [List.length_map, ← HN.out]
        exact hown
      go_wp2
      go_ret
      exact ⟨_, rfl, hfin, hB⟩
end Go.Proofs.YtackinamkibmlaaDoor
namespace Go.Proofs.YtackinamkibmlaaDoor
open Go.RowKit Go.Shelf
open Go.Lib (byteCells)
set_option linter.unusedVariables false
set_option linter.unusedSimpArgs false

theorem flat_three : ∀ (fs : List ByteArray), (∀ s ∈ fs, okF s) → 3 * fs.length ≤ (fs.flatMap frmB).length
  | [], _ => Nat.le_refl _
  | s :: fs, h => by
    have := flat_three fs (fun x hx => h x (List.mem_cons_of_mem _ hx))
    have h1 := (h s (List.mem_cons_self ..)).1
    rw [List.flatMap_cons, List.length_append, frmB_len, List.length_cons]
    omega
/-- what some bytes bring: no more texts than bytes, none too long -/
theorem txL_small (s : Ds) (b : List UInt8) (h : s.buf.size + b.length ≤ 2000000) : (txL s b).length ≤ 700000 ∧ ∀ t ∈ txL s b, t.size ≤ 1000000 := by
  unfold txL
  by_cases h1 : offD s = true
  · rw [if_pos h1]
    exact ⟨by simp, fun t ht => by cases ht⟩
  · rw [if_neg h1]
    obtain ⟨h2, h3⟩ := pr_all _ (s.buf.data.toList ++ b) (Nat.le_refl _)
    have h4 := congrArg List.length h2
    have h5 : 3 * (pr (s.buf.data.toList ++ b)).1.length ≤ ((pr (s.buf.data.toList ++ b)).1.flatMap frmB).length := flat_three _ h3
    rw [List.length_append, List.length_append, ← list_sz] at h4
    refine ⟨by omega, fun t ht => ?_⟩
    have := (h3 t ht).2
    omega
set_option maxRecDepth 100000 in
set_option maxHeartbeats 4000000 in
theorem dfeed_any (s : Ds) (b : ByteArray) (w : World) (hT : Tabs9 w) (hs : s.buf.size ≤ 1000000) (hb : b.size ≤ 1000000) : Calls Tryd.prog 6 #[dsV s, .string b] w fun e w' => ∃ v, e = .returned (.tuple #[dsV (txS s b.data.toList), v]) ∧ OwnR 45 9 itC w' w.heap.size v ((txL s b.data.toList).map itD) ∧ Below w.heap.size w w' := by
  have cT := Lib.hid (fun W => dtexts_any s b W hs hb)
  obtain ⟨q1, q2⟩ := txL_small s b.data.toList (by rw [← list_sz]; omega)
  have cI := Lib.hid (fun v W hT' hv => ditems_any v (txL s b.data.toList) W hT' hv (by omega) q2)
  clear q1 q2
  generalize hS : txS s b.data.toList = r at cT
  generalize hL : txL s b.data.toList = L at cT cI
  have HS := Lib.hid hS
  have HL := Lib.hid hL
  clear hS hL
  obtain ⟨u, x, n⟩ := s
  obtain ⟨r0, r1, r2⟩ := r
  simp only [dsV] at *
  have X0 : Hid (∀ t t', Row3 ((w.alloc (.cells #[.string u, .int .i64 x, .int .i64 n] t)).alloc (.cells #[.string ⟨#[]⟩, .int .i64 0, .int .i64 0] t')) w.heap.size (.string u) (.int .i64 x) (.int .i64 n) ∧ Row3 ((w.alloc (.cells #[.string u, .int .i64 x, .int .i64 n] t)).alloc (.cells #[.string ⟨#[]⟩, .int .i64 0, .int .i64 0] t')) (w.heap.size + 1) (.string ⟨#[]⟩) (.int .i64 0) (.int .i64 0)) := Lib.hid (fun t t' => by simp [Row3, go_sem])
  go_enter Tryd.func6, Tryd.ntmps6
  go_wp2_with fail
  refine (cT.out _).mono ?_; rintro e w1 ⟨v1, rfl, ho, hb1⟩
  have hz1 : w.heap.size + 2 ≤ w1.heap.size := by have := hb1.size; simpa using this
  have B1 : Below w.heap.size w w1 := by (repeat (first | (with_reducible exact Below.refl _ _) | ((with_reducible refine below_alloc ?_ ?_ _); · (first | omega | (simp; done) | (simp; omega))) | ((with_reducible refine below_setCell ?_ ?_ _); · (first | omega | (simp; done) | (simp; omega))) | (with_reducible refine Below.drew ?_) | (with_reducible refine below_drewN ?_ _) | ((with_reducible refine below_call (by assumption) ?_ ?_); · (first | omega | (simp; done) | (simp; omega)))))
  have X1 := (X0.out _ _).1.call hb1 (by simp; omega)
  have Z1 := (X0.out _ _).2.call hb1 (by simp)
  have ho' : OwnS w1 (w.heap.size + 2) v1 L := by simpa using ho
  obtain ⟨p1, cp1, rfl⟩ : ∃ p cap, v1 = .slice p L.length cap := by obtain ⟨p, cap, h, _⟩ := ho'.reads; exact ⟨p, cap, h⟩
  have HX1 := Lib.hid X1
  obtain ⟨⟨x0, x1, x2⟩, y0, y1, y2⟩ := X1
  have HO1 := Lib.hid ho'
  have HZ1 := Lib.hid Z1
  have HB1 := Lib.hid B1
  clear ho ho' Z1 B1 X0 hb1
  go_upto_region 2 with fail
  refine gen_world (F := fun W => (Row3 W w.heap.size (.string r0) (.int .i64 r1) (.int .i64 r2) ∧ Row3 W (w.heap.size + 1) (.string ⟨#[]⟩) (.int .i64 0) (.int .i64 0)) ∧ IsS W (.slice p1 L.length cp1) L ∧ Tabs9 W ∧ Below w.heap.size w W ∧ w.heap.size + 2 ≤ W.heap.size) ⟨⟨?_, ?_⟩, ?_, ?_, ?_, ?_⟩ (fun wt hF => ?_)
  · exact ((HX1.out.set0 _).set1 _).set2 _
  · exact ((HZ1.out.other (p := ⟨w.heap.size, 0, none⟩) (by simp) _).other (p := ⟨w.heap.size, 1, none⟩) (by simp) _).other (p := ⟨w.heap.size, 2, none⟩) (by simp) _
  · exact (ownS_set (p := ⟨w.heap.size, 2, none⟩) (ownS_set (p := ⟨w.heap.size, 1, none⟩) (ownS_set (p := ⟨w.heap.size, 0, none⟩) HO1.out (by show w.heap.size < _; omega) _) (by show w.heap.size < _; omega) _) (by show w.heap.size < _; omega) _).reads
  · have := HB1.out
    exact hT.call (by (repeat (first | (with_reducible exact Below.refl _ _) | ((with_reducible refine below_alloc ?_ ?_ _); · (first | omega | (simp; done) | (simp; omega))) | ((with_reducible refine below_setCell ?_ ?_ _); · (first | omega | (simp; done) | (simp; omega))) | (with_reducible refine Below.drew ?_) | (with_reducible refine below_drewN ?_ _) | ((with_reducible refine below_call (by assumption) ?_ ?_); · (first | omega | (simp; done) | (simp; omega))))))
  · have := HB1.out
    (repeat (first | (with_reducible exact Below.refl _ _) | ((with_reducible refine below_alloc ?_ ?_ _); · (first | omega | (simp; done) | (simp; omega))) | ((with_reducible refine below_setCell ?_ ?_ _); · (first | omega | (simp; done) | (simp; omega))) | (with_reducible refine Below.drew ?_) | (with_reducible refine below_drewN ?_ _) | ((with_reducible refine below_call (by assumption) ?_ ?_); · (first | omega | (simp; done) | (simp; omega)))))
  · simpa using hz1
  clear HX1 HZ1 HO1 HB1 x0 x1 x2 y0 y1 y2 hz1 cT hT
  obtain ⟨⟨hX, hZ⟩, hI, hT, hB, hz⟩ := hF
  have HX := Lib.hid hX
  have HZ := Lib.hid hZ
  have HI := Lib.hid hI
  have HT := Lib.hid hT
  have HB := Lib.hid hB
  obtain ⟨⟨c0, c1, c2⟩, f0, f1, f2⟩ := hX
  clear hZ hI hT hB
  go_region_with (go_at_call 15; refine (cI.out _ _ (HT.out.call (by (repeat (first | (with_reducible exact Below.refl _ _) | ((with_reducible refine below_alloc ?_ ?_ _); · (first | omega | (simp; done) | (simp; omega))) | ((with_reducible refine below_setCell ?_ ?_ _); · (first | omega | (simp; done) | (simp; omega))) | (with_reducible refine Below.drew ?_) | (with_reducible refine below_drewN ?_ _) | ((with_reducible refine below_call (by assumption) ?_ ?_); · (first | omega | (simp; done) | (simp; omega))))))) (HI.out.call (by (repeat (first | (with_reducible exact Below.refl _ _) | ((with_reducible refine below_alloc ?_ ?_ _); · (first | omega | (simp; done) | (simp; omega))) | ((with_reducible refine below_setCell ?_ ?_ _); · (first | omega | (simp; done) | (simp; omega))) | (with_reducible refine Below.drew ?_) | (with_reducible refine below_drewN ?_ _) | ((with_reducible refine below_call (by assumption) ?_ ?_); · (first | omega | (simp; done) | (simp; omega)))))))).mono ?_; rintro e w2 ⟨v2, rfl, hO2, hb2⟩; have hbw : Below wt.heap.size wt w2 := (by (repeat (first | (with_reducible exact Below.refl _ _) | ((with_reducible refine below_alloc ?_ ?_ _); · (first | omega | (simp; done) | (simp; omega))) | ((with_reducible refine below_setCell ?_ ?_ _); · (first | omega | (simp; done) | (simp; omega))) | (with_reducible refine Below.drew ?_) | (with_reducible refine below_drewN ?_ _) | ((with_reducible refine below_call (by assumption) ?_ ?_); · (first | omega | (simp; done) | (simp; omega)))))); have d0 := (hbw.cell (p := ⟨w.heap.size, 0, none⟩) (by show w.heap.size < _; omega)).trans c0; have d1 := (hbw.cell (p := ⟨w.heap.size, 1, none⟩) (by show w.heap.size < _; omega)).trans c1; have d2 := (hbw.cell (p := ⟨w.heap.size, 2, none⟩) (by show w.heap.size < _; omega)).trans c2; obtain ⟨⟨z0, z1, z2⟩, k0, k1, k2⟩ := HZ.out.call hbw (by omega); have HO2 := Lib.hid hO2; clear hO2)
  all_goals go_wp2
  all_goals have HBt := HB.out
  all_goals refine bodyPost_ret (v := .tuple #[.agg #[.string r0, .int .i64 r1, .int .i64 r2], v2]) (by simp [results, Tryd.results6, go_sem, *]) rfl ⟨v2, rfl, (OwnR.set (p := ⟨w.heap.size + 1, 2, none⟩) (OwnR.set (p := ⟨w.heap.size + 1, 1, none⟩) (OwnR.set (p := ⟨w.heap.size + 1, 0, none⟩) HO2.out (by show w.heap.size + 1 < wt.heap.size; omega) _) (by show w.heap.size + 1 < wt.heap.size; omega) _) (by show w.heap.size + 1 < wt.heap.size; omega) _).mono (by show w.heap.size ≤ wt.heap.size; omega), by (repeat (first | (with_reducible exact Below.refl _ _) | ((with_reducible refine below_alloc ?_ ?_ _); · (first | omega | (simp; done) | (simp; omega))) | ((with_reducible refine below_setCell ?_ ?_ _); · (first | omega | (simp; done) | (simp; omega))) | (with_reducible refine Below.drew ?_) | (with_reducible refine below_drewN ?_ _) | ((with_reducible refine below_call (by assumption) ?_ ?_); · (first | omega | (simp; done) | (simp; omega)))))⟩
/-- a stanza's frame -/
def frmS (x : St) : ByteArray := if chkS x = 0 then ⟨(frmB (putT x)).toArray⟩ else ⟨#[]⟩
theorem dframed_any (x : St) (w : World) (hT : Tabs9 w) (hz : Sml x) : Calls Tryd.prog 24 #[stzV x] w fun e w' => e = .returned (.tuple #[.string (frmS x), .int .i64 (chkS x)]) ∧ Below w.heap.size w w' := by
  have c := Lib.hid (fun W hT' => sput_any x W hT' hz)
  obtain ⟨k, u, r, m, s, p, q, n⟩ := x
  by_cases h0 : chkS ⟨k, u, r, m, s, p, q, n⟩ = 0
  · have hF : frmS ⟨k, u, r, m, s, p, q, n⟩ = fpT (putT ⟨k, u, r, m, s, p, q, n⟩) := by unfold frmS; rw [if_pos h0, fpT_ok (put_okF h0)]
    have hE : fpE (putT ⟨k, u, r, m, s, p, q, n⟩) = 0 := fpE_ok.2 (put_okF h0)
    have c2 := Lib.hid (fun W => fput_any (putT ⟨k, u, r, m, s, p, q, n⟩) W (by have := (put_okF h0).2; omega))
    rw [hE] at c2
    rw [h0] at c ⊢
    rw [hF]
    generalize putT ⟨k, u, r, m, s, p, q, n⟩ = t at c c2
    generalize fpT t = f at c2
    clear hF hE h0
    simp only [stzV] at *
    go_enter Tryd.func24, Tryd.ntmps24
    go_wp2_with fail
    refine (c.out _ (hT.call (by (repeat (first | (with_reducible exact Below.refl _ _) | ((with_reducible refine below_alloc ?_ ?_ _); · (first | omega | (simp; done) | (simp; omega))) | ((with_reducible refine below_setCell ?_ ?_ _); · (first | omega | (simp; done) | (simp; omega))) | (with_reducible refine Below.drew ?_) | (with_reducible refine below_drewN ?_ _) | ((with_reducible refine below_call (by assumption) ?_ ?_); · (first | omega | (simp; done) | (simp; omega)))))))).mono ?_; rintro e w1 ⟨rfl, hb1⟩
    have B1 : Below w.heap.size w w1 := by (repeat (first | (with_reducible exact Below.refl _ _) | ((with_reducible refine below_alloc ?_ ?_ _); · (first | omega | (simp; done) | (simp; omega))) | ((with_reducible refine below_setCell ?_ ?_ _); · (first | omega | (simp; done) | (simp; omega))) | (with_reducible refine Below.drew ?_) | (with_reducible refine below_drewN ?_ _) | ((with_reducible refine below_call (by assumption) ?_ ?_); · (first | omega | (simp; done) | (simp; omega)))))
    go_wp2_with fail
    refine (c2.out _).mono ?_; rintro e w2 ⟨rfl, hb2⟩
    have B2 : Below w.heap.size w w2 := B1.trans (hb2.mono B1.size)
    go_wp2
    go_ret2
    exact ⟨rfl, B2⟩
  · have hF : frmS ⟨k, u, r, m, s, p, q, n⟩ = ⟨#[]⟩ := if_neg h0
    have e0 : (chkS ⟨k, u, r, m, s, p, q, n⟩ != 0) = true := by simp [h0]
    rw [hF]
    generalize chkS ⟨k, u, r, m, s, p, q, n⟩ = E at *
    clear hF h0
    simp only [stzV] at *
    go_enter Tryd.func24, Tryd.ntmps24
    go_wp2_with fail
    refine (c.out _ (hT.call (by (repeat (first | (with_reducible exact Below.refl _ _) | ((with_reducible refine below_alloc ?_ ?_ _); · (first | omega | (simp; done) | (simp; omega))) | ((with_reducible refine below_setCell ?_ ?_ _); · (first | omega | (simp; done) | (simp; omega))) | (with_reducible refine Below.drew ?_) | (with_reducible refine below_drewN ?_ _) | ((with_reducible refine below_call (by assumption) ?_ ?_); · (first | omega | (simp; done) | (simp; omega)))))))).mono ?_; rintro e w1 ⟨rfl, hb1⟩
    have B1 : Below w.heap.size w w1 := by (repeat (first | (with_reducible exact Below.refl _ _) | ((with_reducible refine below_alloc ?_ ?_ _); · (first | omega | (simp; done) | (simp; omega))) | ((with_reducible refine below_setCell ?_ ?_ _); · (first | omega | (simp; done) | (simp; omega))) | (with_reducible refine Below.drew ?_) | (with_reducible refine below_drewN ?_ _) | ((with_reducible refine below_call (by assumption) ?_ ?_); · (first | omega | (simp; done) | (simp; omega)))))
    go_wp2
    go_ret2
    exact ⟨rfl, B1⟩
theorem flat_most : ∀ (fs : List ByteArray), (∀ s ∈ fs, okF s) → (fs.flatMap frmB).length ≤ 130 * fs.length
  | [], _ => Nat.le_refl _
  | s :: fs, h => by
    have := flat_most fs (fun x hx => h x (List.mem_cons_of_mem _ hx))
    have h1 := (h s (List.mem_cons_self ..)).2
    rw [List.flatMap_cons, List.length_append, frmB_len, List.length_cons]
    omega
/-- the bytes of the first k -/
def encK (l : List St) (k : Nat) : List UInt8 := ((l.take k).map putT).flatMap frmB
theorem encK_len {l : List St} {k : Nat} (hk : k ≤ l.length) (h : ∀ j (hj : j < l.length), j < k → chkS l[j] = 0) : (encK l k).length ≤ 130 * k := by
  have h2 := flat_most ((l.take k).map putT) (by
    intro s hs
    obtain ⟨x, hx, rfl⟩ := List.mem_map.1 hs
    obtain ⟨j, hj, rfl⟩ := List.mem_take_iff_getElem.1 hx
    exact put_okF (h j (by omega) (by omega)))
  rw [List.length_map, List.length_take] at h2
  unfold encK
  omega
theorem encK_next {l : List St} {k : Nat} (hk : k < l.length) : encK l (k + 1) = encK l k ++ frmB (putT l[k]) := by
  unfold encK
  rw [List.take_succ_eq_append_getElem hk, List.map_append, List.flatMap_append, List.map_cons, List.map_nil, List.flatMap_cons, List.flatMap_nil, List.append_nil]
theorem enE_first : ∀ {l : List St} {k : Nat} (hk : k < l.length), (∀ j (hj : j < l.length), j < k → chkS l[j] = 0) → chkS l[k] ≠ 0 → enE l = chkS l[k]
  | x :: l, 0, _, _, he => by
    unfold enE
    exact if_pos he
  | x :: l, k + 1, hk, h, he => by
    have h0 := h 0 (Nat.zero_lt_succ _) (Nat.zero_lt_succ _)
    replace h0 : chkS x = 0 := h0
    unfold enE
    rw [if_neg (by rw [h0]; decide), if_neg (by rw [fpE_ok.2 (put_okF h0)]; decide)]
    exact enE_first (l := l) (k := k) (by simpa using hk) (fun j hj hjk => h (j + 1) (by simpa using hj) (by omega)) he
theorem sc_frD (l : List UInt8) : Lib.strCells ⟨l.toArray⟩ = byteCells l := by unfold Lib.strCells byteCells; simp
set_option maxRecDepth 100000 in
set_option maxHeartbeats 4000000 in
theorem denc_any (v : Value) (l : List St) (w : World) (hT : Tabs9 w) (hv : IsR 8 stC w v l) (hl : l.length ≤ 1000000) (hs : ∀ x ∈ l, Sml x) : Calls Tryd.prog 12 #[v] w fun e w' => e = .returned (.tuple #[.string (enT l), .int .i64 (enE l)]) ∧ Below w.heap.size w w' := by
  obtain ⟨p, cap, rfl, -, hp⟩ := hv
  have HP := Lib.hid hp
  have HS := Lib.hid hs
  clear hp hs
  have hnew := Lib.fresh_isBuilder 63 5 w
  go_enter Tryd.func12, Tryd.ntmps12
  go_wp2
  go_loopw [11] (fun i wr => ∃ k : Nat, i = .int .i64 k ∧ k ≤ l.length ∧ (∀ j (h : j < l.length), j < k → chkS l[j] = 0) ∧ IsBld w.heap.size w.heap.size (byteCells (encK l k)) wr ∧ Below w.heap.size w wr) (fun i _ => l.length - (intOf i).toNat)
  case atStart => exact ⟨0, rfl, Nat.zero_le _, fun j hj h => by omega, hnew, by (repeat (first | (with_reducible exact Below.refl _ _) | ((with_reducible refine below_alloc ?_ ?_ _); · (first | omega | (simp; done) | (simp; omega))) | ((with_reducible refine below_setCell ?_ ?_ _); · (first | omega | (simp; done) | (simp; omega))) | (with_reducible refine Below.drew ?_) | (with_reducible refine below_drewN ?_ _) | ((with_reducible refine below_call (by assumption) ?_ ?_); · (first | omega | (simp; done) | (simp; omega)))))⟩
  case round =>
    clear hnew
    obtain ⟨k, rfl, hk, hok, hbld, hB⟩ := hrel
    have HO := Lib.hid hok
    have HB := Lib.hid hbld
    have hz := hB.size
    have hTr := hT.call hB
    clear hok hbld
    by_cases hlt : k < l.length
    · have hlt' : (k : Int) < l.length := by omega
      obtain ⟨b, off, rfl, hc⟩ := HP.out k hlt
      obtain ⟨c0, c1, c2, c3, c4, c5, c6, c7⟩ := stC_at (o := off + k * 8) (fun c u h => (hB.cell (p := ⟨b, off + k * 8 + c, none⟩) (World.block_lt_of_cell? _ _ (hc c u h))).trans (hc c u h))
      have c := Lib.hid (fun W hT' => dframed_any l[k] W hT' (HS.out _ (List.getElem_mem hlt)))
      have HN := Lib.hid (encK_next hlt)
      have hsz := encK_len hk HO.out
      by_cases hE : chkS l[k] = 0
      · have HG := Lib.hid (show ∀ j (h : j < l.length), j < k + 1 → chkS l[j] = 0 from fun j hj h => by
          by_cases e : j = k
          · subst e; exact hE
          · exact HO.out j hj (by omega))
        have hF : frmS l[k] = ⟨(frmB (putT l[k])).toArray⟩ := if_pos hE
        have hlen : (frmB (putT l[k])).length ≤ 130 := by rw [frmB_len]; have := (put_okF hE).2; omega
        rw [hF, hE] at c
        generalize encK l k = o at HN hsz HB
        generalize frmB (putT l[k]) = f at c HN hlen
        have hwr := fun W (hb : Below wr.heap.size wr W) => bld_write w.heap.size w.heap.size (byteCells o) ⟨f.toArray⟩ W (HB.out.call hb) (by rw [Lib.byteCells_length, size_mk]; omega) (Nat.le_trans hz hb.size)
        have HW := Lib.hid hwr
        generalize l[k] = x at c c0 c1 c2 c3 c4 c5 c6 c7
        obtain ⟨x0, x1, x2, x3, x4, x5, x6, x7⟩ := x
        simp only [stzV] at c
        clear hE hc hwr hF hlen hsz
        go_wp2_with fail
        refine (c.out _ (hTr.call (by (repeat (first | (with_reducible exact Below.refl _ _) | ((with_reducible refine below_alloc ?_ ?_ _); · (first | omega | (simp; done) | (simp; omega))) | ((with_reducible refine below_setCell ?_ ?_ _); · (first | omega | (simp; done) | (simp; omega))) | (with_reducible refine Below.drew ?_) | (with_reducible refine below_drewN ?_ _) | ((with_reducible refine below_call (by assumption) ?_ ?_); · (first | omega | (simp; done) | (simp; omega)))))))).mono ?_; rintro e w1 ⟨rfl, hb1⟩
        have b1 : Below wr.heap.size wr w1 := by (repeat (first | (with_reducible exact Below.refl _ _) | ((with_reducible refine below_alloc ?_ ?_ _); · (first | omega | (simp; done) | (simp; omega))) | ((with_reducible refine below_setCell ?_ ?_ _); · (first | omega | (simp; done) | (simp; omega))) | (with_reducible refine Below.drew ?_) | (with_reducible refine below_drewN ?_ _) | ((with_reducible refine below_call (by assumption) ?_ ?_); · (first | omega | (simp; done) | (simp; omega)))))
        go_wp2_with fail
        refine (HW.out _ b1).mono ?_; rintro e w2 ⟨rfl, hb2, hbel2⟩
        have B2 : Below w.heap.size w w2 := (hB.trans (b1.mono hz)).trans hbel2
        go_wp2
        go_roundw
        case rel =>
          refine ⟨k + 1, by go_num, by omega, HG.out, ?_, B2⟩
          rw [sc_frD] at hb2
          rw [HN.out, show byteCells (o ++ f) = byteCells o ++ byteCells f by simp [byteCells]]
          exact hb2
        case measure => simp [intOf]; omega
      · have H1 := Lib.hid (enE_first hlt HO.out hE)
        have H2 : Hid (enT l = ⟨#[]⟩) := Lib.hid (by unfold enT; rw [H1.out, if_neg hE])
        have e0 : (chkS l[k] != 0) = true := by simp [hE]
        generalize frmS l[k] = f at c
        generalize chkS l[k] = E at c e0 H1
        generalize l[k] = x at c c0 c1 c2 c3 c4 c5 c6 c7
        obtain ⟨x0, x1, x2, x3, x4, x5, x6, x7⟩ := x
        simp only [stzV] at c
        clear hE hc hsz
        go_wp2_with fail
        refine (c.out _ (hTr.call (by (repeat (first | (with_reducible exact Below.refl _ _) | ((with_reducible refine below_alloc ?_ ?_ _); · (first | omega | (simp; done) | (simp; omega))) | ((with_reducible refine below_setCell ?_ ?_ _); · (first | omega | (simp; done) | (simp; omega))) | (with_reducible refine Below.drew ?_) | (with_reducible refine below_drewN ?_ _) | ((with_reducible refine below_call (by assumption) ?_ ?_); · (first | omega | (simp; done) | (simp; omega)))))))).mono ?_; rintro e w1 ⟨rfl, hb1⟩
        have b1 : Below wr.heap.size wr w1 := by (repeat (first | (with_reducible exact Below.refl _ _) | ((with_reducible refine below_alloc ?_ ?_ _); · (first | omega | (simp; done) | (simp; omega))) | ((with_reducible refine below_setCell ?_ ?_ _); · (first | omega | (simp; done) | (simp; omega))) | (with_reducible refine Below.drew ?_) | (with_reducible refine below_drewN ?_ _) | ((with_reducible refine below_call (by assumption) ?_ ?_); · (first | omega | (simp; done) | (simp; omega)))))
        have B1 : Below w.heap.size w w1 := hB.trans (b1.mono hz)
        go_wp2
        go_ret2
        exact ⟨by rw [H1.out, H2.out]; rfl, B1⟩
    · obtain rfl : k = l.length := by omega
      have hall : ∀ x ∈ l, chkS x = 0 := fun x hx => by
        obtain ⟨j, hj, rfl⟩ := List.getElem_of_mem hx
        exact HO.out j hj hj
      have H1 := Lib.hid (en_ok hall)
      have H2 : Hid (enT l = ⟨(encK l l.length).toArray⟩) := Lib.hid (by unfold enT encK; rw [H1.out, if_pos rfl, List.take_length])
      have hbld := HB.out
      have hst := Lib.hid (bld_string w.heap.size w.heap.size (encK l l.length) wr hbld hz)
      generalize encK l l.length = o at H2 hst
      clear hall hbld HB
      go_wp2_with fail
      refine hst.out.mono ?_; rintro e w1 ⟨rfl, hb1⟩
      go_wp2
      go_ret2
      exact ⟨by rw [H1.out, H2.out]; rfl, hB.trans hb1⟩
end Go.Proofs.YtackinamkibmlaaDoor
