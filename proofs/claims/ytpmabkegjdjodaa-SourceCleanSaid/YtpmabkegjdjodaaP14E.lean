/- Layer 14, the program's: where a source stands (slices.BinarySearchFunc); a source's bucket. -/
import Derived.Test.YtpmabkegjdjodaaP14D
import Derived.Test.YtpmabkegjdjodaaS14C
namespace Go.Proofs.Ytpmabkegjdjodaa
open Go.RowKit
set_option linter.unusedVariables false
set_option linter.unusedSimpArgs false

theorem cmpnan_any (x : Int) (w : World) : Calls Try.prog 60 #[.int .i64 x] w fun e w' => e = .returned (.bool false) ∧ w' = w := by
  go_enter Try.func60, Try.ntmps60
  go_wp2
  go_ret
  exact ⟨by simp, rfl⟩
theorem cmpint_any (x y : Int) (w : World) : Calls Try.prog 53 #[.int .i64 x, .int .i64 y] w fun e w' => e = .returned (.int .i64 (if x < y then -1 else if y < x then 1 else 0)) ∧ w' = w := by
  have c := Lib.hid (fun z W => cmpnan_any z W)
  go_enter Try.func53, Try.ntmps53
  go_wp2_with (go_at_call 60; refine (c.out _ _).mono ?_; rintro e w2 ⟨rfl, rfl⟩)
  all_goals
    go_ret
    refine ⟨ret_int ?_, rfl⟩
    simp_all
/-- how an entry stands to a source -/
theorem fnd1_any (s T A q : Int) (w : World) : Calls Try.prog 52 #[.agg #[.int .i64 s, .int .i64 T, .int .i64 A], .int .i64 q] w fun e w' => e = .returned (.int .i64 (if s < q then -1 else if q < s then 1 else 0)) ∧ Below w.heap.size w w' := by
  have c := Lib.hid (fun W => cmpint_any s q W)
  generalize (if s < q then (-1 : Int) else if q < s then 1 else 0) = r at c ⊢
  go_enter Try.func52, Try.ntmps52
  go_wp2_with fail
  refine (c.out _).mono ?_; rintro e w1 ⟨rfl, rfl⟩
  go_wp2
  go_ret
  exact ⟨rfl, by (repeat (first | (with_reducible exact Below.refl _ _) | ((with_reducible refine below_alloc ?_ ?_ _); · (first | omega | (simp; done) | (simp; omega))) | ((with_reducible refine below_setCell ?_ ?_ _); · (first | omega | (simp; done) | (simp; omega))) | (with_reducible refine Below.drew ?_) | (with_reducible refine below_drewN ?_ _) | ((with_reducible refine below_call (by assumption) ?_ ?_); · (first | omega | (simp; done) | (simp; omega)))))⟩
set_option maxRecDepth 100000 in
set_option maxHeartbeats 4000000 in
theorem bsearch_any (v : Value) (L : List En) (s : Int) (w : World) (hv : IsR 3 enC w v L) (hl : L.length ≤ 1000000) (ha : L.Pairwise (fun a b => a.1 < b.1)) :
    Calls Try.prog 51 #[v, .int .i64 s, .func (.func 52) #[] #[]] w fun e w' => e = .returned (.tuple #[.int .i64 ((lowS L s).length : Int), .bool (getS L s).isSome]) ∧ Below w.heap.size w w' := by
  obtain ⟨p, cap, rfl, -, hp⟩ := hv
  have HP := Lib.hid hp
  have HA := Lib.hid ha
  clear hp ha
  have hp2 := List.pairwise_iff_getElem.1 HA.out
  have HI := Lib.hid hp2
  clear hp2
  have cC := Lib.hid (fun (x : En) W => fnd1_any x.1 x.2.1 x.2.2 s W)
  go_enter Try.func51, Try.ntmps51
  go_wp2
  go_loopw [9, 10] (fun i j wr => ∃ a b : Nat, i = .int .i64 a ∧ j = .int .i64 b ∧ a ≤ b ∧ b ≤ L.length ∧ Hid (∀ k (hk : k < L.length), k < a → L[k].1 < s) ∧ Hid (∀ k (hk : k < L.length), b ≤ k → s ≤ L[k].1) ∧ Below w.heap.size w wr) (fun i j _ => (intOf j).toNat - (intOf i).toNat)
  case atStart => exact ⟨0, L.length, rfl, rfl, Nat.zero_le _, Nat.le_refl _, Lib.hid (fun k _ h => by omega), Lib.hid (fun k hk h => by omega), Below.refl _ _⟩
  case round =>
    obtain ⟨a, b, rfl, rfl, hab, hbl, HL, HR, hB⟩ := hrel
    by_cases hlt : a < b
    · have hlt' : (a : Int) < b := by omega
      go_upto_region 5 with fail
      obtain ⟨m, hm⟩ : ∃ m : Nat, ((a : Int) + (b : Int)) / 2 = m := ⟨(a + b) / 2, by omega⟩
      rw [hm]
      have hm1 : a ≤ m := by omega
      have hm2 : m < b := by omega
      have hmL : m < L.length := by omega
      have hml : (m : Int) < L.length := by omega
      clear hm
      obtain ⟨bb, off, rfl, g⟩ := HP.out m hmL
      have g3 := (en3_of g).far hB
      have cM := Lib.hid (fun W => cC.out L[m] W)
      have HL2 : Hid (L[m].1 < s → ∀ k (hk : k < L.length), k < m + 1 → L[k].1 < s) := Lib.hid (fun h k hk hkm => by
        by_cases e : k = m
        · subst e; exact h
        · have := HI.out k m hk hmL (by omega); omega)
      have HR2 : Hid (¬ L[m].1 < s → ∀ k (hk : k < L.length), m ≤ k → s ≤ L[k].1) := Lib.hid (fun h k hk hkm => by
        by_cases e : k = m
        · subst e; omega
        · have := HI.out m k hmL hk (by omega); omega)
      generalize L[m] = x at g3 cM HL2 HR2
      obtain ⟨q, T, A⟩ := x
      obtain ⟨d0, d1, d2⟩ := g3
      simp only at d0 d1 d2 cM HL2 HR2
      clear g
      by_cases hq : q < s
      · rw [if_pos hq] at cM
        go_wp2_with fail
        refine (cM.out _).mono ?_; rintro e w1 ⟨rfl, hb1⟩
        go_wp2
        go_roundw
        case rel => exact ⟨m + 1, b, by go_num, rfl, by omega, hbl, Lib.hid (HL2.out hq), HR, hB.trans (hb1.mono hB.size)⟩
        case measure => simp [intOf]; omega
      · have hr : ¬ ((if q < s then (-1 : Int) else if s < q then 1 else 0) < 0) := by rw [if_neg hq]; split <;> omega
        generalize (if q < s then (-1 : Int) else if s < q then 1 else 0) = r at cM hr
        have hr2 : (0 : Int) ≤ r := by omega
        go_wp2_with fail
        refine (cM.out _).mono ?_; rintro e w1 ⟨rfl, hb1⟩
        go_wp2
        go_roundw
        case rel => exact ⟨a, m, rfl, rfl, hm1, by omega, HL, Lib.hid (HR2.out (by omega)), hB.trans (hb1.mono hB.size)⟩
        case measure => simp [intOf]; omega
    · obtain rfl : a = b := by omega
      have HC := Lib.hid (cut_of (s := s) HA.out hbl HL.out (fun h => by have := HR.out a h (Nat.le_refl _); omega))
      by_cases han : a < L.length
      · have han' : (a : Int) < L.length := by omega
        obtain ⟨bb, off, rfl, g⟩ := HP.out a han
        have g3 := (en3_of g).far hB
        have cM := Lib.hid (fun W => cC.out L[a] W)
        have hE : Hid ((lowS L s).length = a ∧ (getS L s).isSome = decide ((if L[a].1 < s then (-1 : Int) else if s < L[a].1 then 1 else 0) = 0)) := Lib.hid (by
          refine ⟨HC.out.len, ?_⟩
          have h2 := HR.out a han (Nat.le_refl _)
          rw [if_neg (by omega)]
          by_cases e : L[a].1 = s
          · rw [(HC.out.is han e).1, if_neg (by omega)]; rfl
          · rw [(HC.out.no (fun _ => e)).1, if_pos (by omega)]; rfl)
        generalize L[a] = x at g3 cM hE
        obtain ⟨q, T, A⟩ := x
        obtain ⟨d0, d1, d2⟩ := g3
        simp only at d0 d1 d2 cM hE
        generalize (if q < s then (-1 : Int) else if s < q then 1 else 0) = r at cM hE
        clear g
        go_wp2_with fail
        refine (cM.out _).mono ?_; rintro e w1 ⟨rfl, hb1⟩
        go_wp2
        go_ret2
        refine ⟨?_, hB.trans (hb1.mono hB.size)⟩
        rw [hE.out.1, hE.out.2]
        first | rfl | (simp; done) | (simp [BEq.beq]; done)
      · have hE : Hid ((lowS L s).length = a ∧ (getS L s).isSome = false) := Lib.hid ⟨HC.out.len, by rw [(HC.out.no (fun h => absurd h han)).1]; rfl⟩
        have han' : ¬ (a : Int) < L.length := by omega
        have han'' : (L.length : Int) ≤ a := by omega
        go_wp2
        go_ret2
        exact ⟨by rw [hE.out.1, hE.out.2]; rfl, hB⟩
theorem find14_any (v : Value) (L : List En) (s : Int) (w : World) (hv : IsR 3 enC w v L) (hl : L.length ≤ 1000000) (ha : L.Pairwise (fun a b => a.1 < b.1)) :
    Calls Try.prog 30 #[v, .int .i64 s] w fun e w' => e = .returned (.tuple #[.int .i64 ((lowS L s).length : Int), .bool (getS L s).isSome]) ∧ Below w.heap.size w w' := by
  have c := Lib.hid (bsearch_any v L s w hv hl ha)
  generalize ((lowS L s).length : Int) = k at c ⊢
  generalize (getS L s).isSome = is at c ⊢
  obtain ⟨p, cap, rfl, -, hp⟩ := hv
  clear hp
  go_enter Try.func30, Try.ntmps30
  go_wp2_with fail
  refine c.out.mono ?_; rintro e w1 ⟨rfl, hb1⟩
  go_wp2
  go_ret2
  exact ⟨rfl, hb1⟩
end Go.Proofs.Ytpmabkegjdjodaa
