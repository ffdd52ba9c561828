/- Layer 7: SortFunc of three entries; All of a table with three entries, with none, of none. -/
import Derived.Test.YtaenbnohkhmnbaaT7S
namespace Go.Proofs.Ytaenbnohkhmnbaa
open Go.RowKit
set_option linter.unusedVariables false
set_option linter.unusedSimpArgs false

set_option maxRecDepth 1000000 in
set_option maxHeartbeats 4000000 in
theorem len64_three (w : World) : Calls Try.prog 50 #[.int .u64 3] w fun e w' => e = .returned (.int .i64 2) ∧ w' = w := by
  go_enter Try.func50, Try.ntmps50
  go_wp2
  go_ret
  exact ⟨by kernel_rfl, rfl⟩
theorem len_three (w : World) : Calls Try.prog 36 #[.int .u64 3] w fun e w' => e = .returned (.int .i64 2) ∧ w' = w := by
  go_enter Try.func36, Try.ntmps36
  go_wp2_with fail
  refine (len64_three _).mono ?_; rintro e w1 ⟨rfl, rfl⟩
  go_wp2
  go_ret
  exact ⟨rfl, rfl⟩
set_option maxRecDepth 100000 in
set_option maxHeartbeats 4000000 in
theorem pdq_three (b cap : Nat) (L : List Ent) (w : World) (H : RowE w b L) (hb : b < w.heap.size) (hn : L.length = 3) :
    Calls Try.prog 35 #[.slice (some ⟨b, 0, none⟩) 3 cap, .int .i64 0, .int .i64 3, .int .i64 2, .func (.func 26) #[] #[]] w fun e w' =>
      e = .returned (.tuple #[]) ∧ RowE w' b (sortE L) ∧ (sortE L).length = 3 ∧ But2 w w' b b := by
  have ci := insertion_any b 3 cap L w H hb hn (by decide) (by decide)
  clear H hn hb
  go_enter Try.func35, Try.ntmps35
  go_wp2
  go_loopw [1, 2, 3, 10] (fun y1 y2 y3 x wr => y1 = .int .i64 0 ∧ y2 = .int .i64 3 ∧ y3 = .int .i64 2 ∧ x = .bool true ∧ wr = w) (fun _ _ _ _ _ => 0)
  case atStart => exact ⟨rfl, rfl, rfl, rfl, rfl⟩
  case round =>
    obtain ⟨rfl, rfl, rfl, rfl, rfl⟩ := hrel
    go_wp2_with fail
    refine ci.mono ?_; rintro e w1 ⟨rfl, HR, hl, HB⟩
    have HR := Lib.hid HR
    have hl := Lib.hid hl
    go_wp2
    (try simp only [Exit.inBlock, Exit.then])
    refine bodyPost_ret (results_none rfl _ _ _) rfl ?_
    exact ⟨rfl, HR.out, hl.out, HB⟩
set_option maxHeartbeats 4000000 in
theorem sortFunc_three (b cap : Nat) (L : List Ent) (w : World) (H : RowE w b L) (hb : b < w.heap.size) (hn : L.length = 3) :
    Calls Try.prog 25 #[.slice (some ⟨b, 0, none⟩) 3 cap, .func (.func 26) #[] #[]] w fun e w' =>
      e = .returned (.tuple #[]) ∧ RowE w' b (sortE L) ∧ (sortE L).length = 3 ∧ But2 w w' b b := by
  have cp := pdq_three b cap L w H hb hn
  clear H hn hb
  go_enter Try.func25, Try.ntmps25
  go_wp2_with fail
  refine (len_three _).mono ?_; rintro e w1 ⟨rfl, hw⟩
  replace hw := hw.symm
  subst hw
  go_wp2_with fail
  refine cp.mono ?_; rintro e w1 ⟨rfl, HR, hl, HB⟩
  have HR := Lib.hid HR
  have hl := Lib.hid hl
  go_wp2
  go_end0
  exact ⟨rfl, HR.out, hl.out, HB⟩

theorem all_none (g h N : Nat) (c : Nat → Sl) (w : World) (H : LieT w g h N 0 c) :
    Calls Try.prog 10 #[ptrV g] w fun e w' => e = .returned (.slice none 0 0) ∧ Below w.heap.size w w' := by
  have cl := len_any g h N 0 c w H
  clear H
  go_enter Try.func10, Try.ntmps10
  go_wp2_with fail
  refine cl.mono ?_; rintro e w1 ⟨rfl, hb1⟩
  go_wp2
  go_ret
  exact ⟨rfl, hb1⟩
theorem all_nil (w : World) : Calls Try.prog 10 #[.pointer none] w fun e w' => e = .returned (.slice none 0 0) ∧ Below w.heap.size w w' := by
  go_enter Try.func10, Try.ntmps10
  go_wp2_with fail
  refine (len_nil _).mono ?_; rintro e w1 ⟨rfl, hb1⟩
  go_wp2
  go_ret
  exact ⟨rfl, hb1⟩
/-- the entries in the slots' order -/
def entsL (c : Nat → Sl) (N : Nat) : List Ent := (List.range N).filterMap c
theorem entsL_succ (c : Nat → Sl) (k : Nat) : entsL c (k + 1) = match c k with | some e => entsL c k ++ [e] | none => entsL c k := by
  unfold entsL
  rw [List.range_succ, List.filterMap_append]
  cases h : c k <;> simp [h]
theorem entsL_le (c : Nat → Sl) (k : Nat) : (entsL c k).length ≤ k := by
  unfold entsL
  have := List.length_filterMap_le c (List.range k)
  simpa using this
def flatE (L : List Ent) : List Value := L.flatMap fun e => [.string e.1, .int .i64 e.2]
theorem flatE_len (L : List Ent) : (flatE L).length = L.length * 2 := by
  induction L with
  | nil => rfl
  | cons e L ih => unfold flatE at ih ⊢; rw [List.flatMap_cons, List.length_append, ih, List.length_cons]; simp; omega
theorem flatE_snoc (L : List Ent) (e : Ent) : flatE (L ++ [e]) = flatE L ++ [.string e.1, .int .i64 e.2] := by unfold flatE; rw [List.flatMap_append]; rfl
theorem flatE_at : ∀ (L : List Ent) (j : Nat) (h : j < L.length), (flatE L)[j * 2]? = some (.string L[j].1) ∧ (flatE L)[j * 2 + 1]? = some (.int .i64 L[j].2)
  | [], j, h => by simp at h
  | e :: L, 0, h => ⟨rfl, rfl⟩
  | e :: L, j + 1, h => by
    have := flatE_at L j (by simpa using h)
    unfold flatE at this ⊢
    rw [List.flatMap_cons]
    refine ⟨?_, ?_⟩
    · rw [List.getElem?_append_right (by simp; omega)]; simpa [show (j + 1) * 2 - 2 = j * 2 by omega] using this.1
    · rw [List.getElem?_append_right (by simp; omega)]; simpa [show (j + 1) * 2 + 1 - 2 = j * 2 + 1 by omega] using this.2
theorem row_form {w : World} {B : Nat} {E : TypeId} {z n : Nat} {v : Value} {xs : List Value} (h : w.ownsRow B E z v n xs) : ∃ ao cap, v = .slice ao n cap := by
  rcases h.2 with ⟨rfl, h2⟩ | ⟨g, cap, cur, rfl, -⟩
  · exact ⟨none, 0, by rw [show n = 0 from by have := h.1; simp_all]⟩
  · exact ⟨_, _, rfl⟩
/-- a row of the call's own that holds these entries -/
abbrev OwnE (w : World) (B : Nat) (E : TypeId) (v : Value) (L : List Ent) : Prop := w.ownsRow B E 2 v L.length (flatE L)
theorem OwnE.row {w : World} {B : Nat} {E : TypeId} {v : Value} {L : List Ent} (h : OwnE w B E v L) (hn : 0 < L.length) : ∃ b cap, v = .slice (some ⟨b, 0, none⟩) L.length cap ∧ B ≤ b ∧ b < w.heap.size ∧ RowE w b L := by
  obtain ⟨h1, h2⟩ := id h
  rcases h2 with ⟨-, h0⟩ | ⟨g, cap, cur, hv, hB, hg, r⟩
  · omega
  · subst hv
    refine ⟨g, cap, rfl, hB, (Array.getElem?_eq_some_iff.1 hg).1, fun j hj => ?_, fun j hj => ?_, fun j => World.ownsRow.frozenAt h j⟩
    · rw [World.ownsRow.cellAt h _ (by omega)]; exact (flatE_at L j hj).1
    · rw [World.ownsRow.cellAt h _ (by omega)]; exact (flatE_at L j hj).2
theorem cell_two_new (w : World) (a b : Value) (E : TypeId) : ∀ j u, [a, b][j]? = some u → (w.alloc (.cells #[a, b] E)).cell? ((⟨w.heap.size, 0, none⟩ : Addr).add j) = some u := by
  intro j u hu
  rw [Addr.add_lit, Nat.zero_add]
  match j with
  | 0 => simp at hu; subst hu; simp [go_sem]
  | 1 => simp at hu; subst hu; simp [go_sem]
  | j + 2 => simp at hu
theorem cell_two_new2 (w : World) (o : Obj) (a b : Value) (E : TypeId) : ∀ j u, [a, b][j]? = some u → ((w.alloc o).alloc (.cells #[a, b] E)).cell? ((⟨w.heap.size + 1, 0, none⟩ : Addr).add j) = some u := by
  have h := cell_two_new (w.alloc o) a b E
  rw [World.size_alloc] at h
  exact h
theorem info_ent : (Try.prog.info? 60).map (fun i => (i.zero, i.size, i.bytes)) = some (some (.agg #[.string ⟨#[]⟩, .int .i64 0]), 2, 24) := by kernel_rfl
set_option maxRecDepth 100000 in
set_option maxHeartbeats 4000000 in
theorem all_three (g h N : Nat) (c : Nat → Sl) (w : World) (H : LieT w g h N 3 c) (h3 : (entsL c N).length = 3) :
    Calls Try.prog 10 #[ptrV g] w fun e w' => ∃ b cap, e = .returned (.slice (some ⟨b, 0, none⟩) 3 cap) ∧ w.heap.size ≤ b ∧ b < w'.heap.size ∧ RowE w' b (sortE (entsL c N)) ∧ (sortE (entsL c N)).length = 3 ∧ Below w.heap.size w w' := by
  obtain ⟨i1, hi1, hk0, hk1, hk2⟩ := info_parts info_ent
  obtain ⟨M, hM⟩ : ∃ M, M = madeCells (Value.agg #[.string ⟨#[]⟩, .int .i64 0]).cells (3 * i1.size) := ⟨_, rfl⟩
  have hM3 : M.size = 3 * 2 := by rw [hM, hk1, size_madeCells]
  have hmk : ∀ W : World, (Instr.makeSlice 29 (.int .i64 0) (.int .i64 3)).run Try.prog W = .ok (.slice (some ⟨W.heap.size, 0, none⟩) 0 3) (W.alloc (.cells M 60)) := fun W => by
    have h := run_make (P := Try.prog) W 29 60 i1 (.agg #[.string ⟨#[]⟩, .int .i64 0]) Try.underlying29 hi1 hk0 .i64 .i64 0 3 (by decide) (by decide) (by rw [hk2]; decide) (by decide)
    rw [hM]
    exact h
  have cl := len_any g h N 3 c w H
  have hm := fun W : World => World.ownsRow_made (base := w.heap.size) (e := 60) (size := 2) W M 3
  have HC := Lib.hid H
  have HM := Lib.hid (And.intro hM3 h3)
  have HL0 := Lib.hid (And.intro H.ltg H.lth)
  have hN := H.hN
  have hN2 : (N : Int) ≤ 256 := by omega
  clear hM3 h3 H hM
  go_enter Try.func10, Try.ntmps10
  go_wp2_with fail
  refine cl.mono ?_; rintro e w1 ⟨rfl, hb1⟩
  have hz1 := hb1.size
  have H1 := HC.out.call hb1
  have c0 := H1.c0
  have c1 := H1.c1
  have hgl := H1.ltg
  have HW1 := Lib.hid (H1.far ((Below.refl w1.heap.size w1).alloc (Nat.le_refl _) (.cells M 60)) H1.ltg H1.lth)
  have HL1 := Lib.hid (And.intro H1.ltg H1.lth)
  have HO1 := Lib.hid (hm w1 hz1 (by decide) HM.out.1)
  have HB1 := Lib.hid (hb1.alloc hz1 (.cells M 60))
  have HLE := Lib.hid hN.2
  clear H1 cl hm hb1
  go_wp2
  go_loopw [3, 19] (fun v i wr => ∃ (k n : Nat) (ao : Option Addr) (cp : Nat), i = .int .i64 k ∧ v = .slice ao n cp ∧ k ≤ N ∧ Hid (n = (entsL c k).length) ∧ Hid (wr.ownsRow w.heap.size 60 2 (.slice ao n cp) n (flatE (entsL c k))) ∧ Hid (LieT wr g h N 3 c) ∧ Hid (Below w.heap.size w wr)) (fun _ i _ => N - (intOf i).toNat)
  case atStart => exact ⟨0, 0, _, 3, rfl, rfl, by omega, Lib.hid rfl, HO1, HW1, HB1⟩
  case round =>
    clear HO1 HW1 HB1
    obtain ⟨k, n, ao, cp, rfl, rfl, hk, hn, HO, HW, HB⟩ := hrel
    by_cases hlt : k < N
    · have hlt' : (k : Int) < N := by omega
      have k0 := HW.out.k0 k hlt
      have k1 := HW.out.k1 k hlt
      have k2 := HW.out.k2 k hlt
      have hes := entsL_succ c k
      have hz := HB.out.size
      cases hc : c k with
      | none =>
        rw [hc] at k0 k1 k2 hes
        simp only [keyO, valO, Option.isSome] at k0 k1 k2
        dsimp only at hes
        have HES := Lib.hid hes
        clear hes hc
        go_wp2
        go_roundw
        case rel => exact ⟨k + 1, n, ao, cp, by go_num, rfl, by omega, by rw [HES.out]; exact hn, Lib.hid (by rw [HES.out]; exact World.ownsRow.alloc HO.out _), Lib.hid (HW.out.call ((Below.refl _ _).alloc (Nat.le_refl _) _)), Lib.hid (HB.out.alloc hz _)⟩
        case measure => simp [intOf]; omega
      | some e =>
        rw [hc] at k0 k1 k2 hes
        simp only [keyO, valO, Option.isSome] at k0 k1 k2
        dsimp only at hes
        have HES := Lib.hid hes
        have hnl := Lib.hid (show n ≤ 256 by have := entsL_le c k; have := hn.out; have := HLE.out; omega)
        clear hes hc
        go_wp2_with (at_builtin; refine wpList_append_own _ rfl _ _ 29 rfl w.heap.size 60 i1 (.agg #[.string ⟨#[]⟩, .int .i64 0]) 2 24 Try.underlying29 hi1 hk0 hk1 hk2 rfl (by decide) _ n (flatE (entsL c k)) rfl (World.ownsRow.alloc (World.ownsRow.alloc HO.out _) _) ⟨wr.heap.size + 1, 0, none⟩ 1 1 [Value.string e.1, Value.int .i64 e.2] rfl rfl (cell_two_new2 wr _ _ _ _) (by simp [Value.oneCell']) (by have := hnl.out; unfold maxLen; omega) (by have := hnl.out; omega) (by simp; omega) ?_; intro v' w4 hown' hgr _)
        have hb4 : Below w.heap.size wr w4 := (((Below.refl w.heap.size wr).alloc hz (.cells #[.string e.1, .int .i64 e.2, .bool true] 62)).alloc (by simp; omega) (.cells #[.string e.1, .int .i64 e.2] 60)).grown hgr (by simp; omega) (fun q hq => (World.ownsRow.lt HO.out q hq).1)
        obtain ⟨ap, cq, hve⟩ := row_form hown'
        subst hve
        have HO2 := Lib.hid (show w4.ownsRow w.heap.size 60 2 (.slice ap (n + 1) cq) (n + 1) (flatE (entsL c (k + 1))) by rw [HES.out, flatE_snoc]; exact hown')
        have HN2 := Lib.hid (show n + 1 = (entsL c (k + 1)).length by rw [HES.out, List.length_append, ← hn.out]; rfl)
        have HW2 := Lib.hid (HW.out.far hb4 HL0.out.1 HL0.out.2)
        have HB2 := Lib.hid (HB.out.trans hb4)
        clear hown' hgr hb4
        go_wp2
        go_roundw
        case rel => exact ⟨k + 1, n + 1, ap, cq, by go_num, rfl, by omega, HN2, HO2, HW2, HB2⟩
        case measure => simp [intOf]; omega
    · obtain rfl : k = N := by omega
      have h3 := HM.out.2
      have hn3 : n = 3 := by rw [hn.out]; exact h3
      subst hn3
      obtain ⟨b, cap, hv, hBb, hbl, hrow⟩ := OwnE.row (L := entsL c k) (show OwnE wr w.heap.size 60 (.slice ao 3 cp) (entsL c k) by unfold OwnE; rw [h3]; exact HO.out) (by omega)
      rw [h3] at hv
      cases hv
      have cs := sortFunc_three b cp (entsL c k) wr hrow hbl h3
      have HBB := Lib.hid (And.intro hBb hbl)
      clear hrow hBb hbl h3
      go_wp2_with fail
      refine cs.mono ?_; rintro e w9 ⟨rfl, hR, hl, hB9⟩
      have HR := Lib.hid hR
      have HL := Lib.hid hl
      have HB9 := Lib.hid hB9
      clear hR hl hB9 cs
      go_wp2
      go_ret
      exact ⟨b, cp, rfl, HBB.out.1, Nat.lt_of_lt_of_le HBB.out.2 HB9.out.size, HR.out, HL.out, HB.out.trans (HB9.out.to HBB.out.1 HBB.out.1 HB.out.size)⟩
end Go.Proofs.Ytaenbnohkhmnbaa
