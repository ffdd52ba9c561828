/- Contracts of layer 3, the statements' own: a state carried over, there and back. -/
import Derived.Test.YtmnlpmfkoammhaaP3E
import Derived.Deep.AppendLies
import Derived.Deep.RegionLaw
namespace Go.Proofs.Ytmnlpmfkoammhaa
open Go.RowKit
set_option linter.unusedVariables false
set_option linter.unusedSimpArgs false

theorem info_celP : (Try.prog.info? 63).map (fun i => (i.zero, i.size, i.bytes)) = some (some (.agg #[.int .i64 0, .bool false, .int .i64 0]), 3, 24) := by kernel_rfl
theorem OwnC.nil (E : TypeId) (w : World) (B : Nat) : OwnC E w B (.slice none 0 0) [] := World.ownsRow_nil w B _ _
theorem celF_take (l : List Cel) (k : Nat) (h : k < l.length) : celF (l.take (k + 1)) = celF (l.take k) ++ [.int .i64 l[k].1, .bool l[k].2.1, .int .i64 l[k].2.2] := by
  rw [List.take_succ_eq_append_getElem h]
  unfold celF
  rw [List.flatMap_append, List.flatMap_singleton]; rfl
theorem frozen_far {B : Nat} {w w' : World} (h : Below B w w') (b o : Nat) (hb : b < B) : w'.frozen? ⟨b, o, none⟩ = w.frozen? ⟨b, o, none⟩ := h.frozen (p := ⟨b, o, none⟩) hb

set_option maxRecDepth 100000 in
set_option maxHeartbeats 4000000 in
theorem own_any (vc vf : Value) (st : St) (w : World) (hv : IsSt w vc vf st) (hl : st.1.length ≤ 1048576) :
    Calls Try.prog 9 #[.agg #[vc, vf]] w fun e w' => ∃ vc', e = .returned (.agg #[vc', vf]) ∧ OwnC 63 w' w.heap.size vc' st.1 ∧ Below w.heap.size w w' := by
  obtain ⟨i0, hi, hj0, hj1, hj2⟩ := info_parts info_celP
  obtain ⟨l, fr⟩ := st
  replace hl : l.length ≤ 1048576 := hl
  obtain ⟨⟨pc, cc, rfl, hp⟩, ⟨pf, cf, rfl, hq⟩⟩ := hv
  have Hp := Lib.hid hp
  clear hp hq
  go_enter Try.func9, Try.ntmps9
  go_wp2
  go_loopw [4] (fun i wr => ∃ k : Nat, i = .int .i64 k ∧ k ≤ l.length ∧ (∃ ao cp, wr.cell? ⟨w.heap.size + 1 + 1, 0, none⟩ = some (.slice ao k cp) ∧ wr.ownsRow (w.heap.size + 3) 63 3 (.slice ao k cp) k (celF (l.take k))) ∧ wr.cell? ⟨w.heap.size + 1 + 1, 1, none⟩ = some (.slice pf fr.length cf) ∧ wr.cell? ⟨w.heap.size, 0, none⟩ = some (.slice pc l.length cc) ∧ wr.cell? ⟨w.heap.size + 1, 0, none⟩ = some (.slice none 0 0) ∧ wr.cell? ⟨w.heap.size + 1, 1, none⟩ = some (.slice none 0 0) ∧ (∀ b o, w.heap.size ≤ b → b < w.heap.size + 3 → wr.frozen? ⟨b, o, none⟩ = false) ∧ w.heap.size + 3 ≤ wr.heap.size ∧ Below w.heap.size w wr) (fun i _ => l.length - (intOf i).toNat)
  case atStart =>
    refine ⟨0, rfl, by omega, ⟨none, 0, ?_, World.ownsRow_nil _ _ _ _⟩, ?_, ?_, ?_, ?_, ?_, ?_, ?_⟩
    · simp [go_sem]
    · simp [go_sem]
    · simp [go_sem]
    · simp [go_sem]
    · simp [go_sem]
    · intro b o h1 h2
      have : b = w.heap.size ∨ b = w.heap.size + 1 ∨ b = w.heap.size + 1 + 1 := by omega
      rcases this with rfl | rfl | rfl <;> simp [go_sem]
    · simp
    · (repeat (first | (with_reducible exact Below.refl _ _) | ((with_reducible refine below_alloc ?_ ?_ _); · (first | omega | (simp; done) | (simp; omega))) | ((with_reducible refine below_setCell ?_ ?_ _); · (first | omega | (simp; done) | (simp; omega))) | (with_reducible refine Below.drew ?_) | (with_reducible refine below_drewN ?_ _) | ((with_reducible refine below_call (by assumption) ?_ ?_); · (first | omega | (simp; done) | (simp; omega)))))
  case round =>
    obtain ⟨k, rfl, hk, ⟨ao, cp, e4, hown⟩, e5, e0, e2, e3, hfz, hsz, hB⟩ := hrel
    by_cases hlt : k < l.length
    · have hlt' : (k : Int) < l.length := by omega
      obtain ⟨b, off, rfl, d0, d1, d2⟩ := Hp.out k hlt
      have c0 := (hB.cell (p := ⟨b, off + k * 3, none⟩) (World.block_lt_of_cell? _ _ d0)).trans d0
      have c1 := (hB.cell (p := ⟨b, off + k * 3 + 1, none⟩) (World.block_lt_of_cell? _ _ d1)).trans d1
      have c2 := (hB.cell (p := ⟨b, off + k * 3 + 2, none⟩) (World.block_lt_of_cell? _ _ d2)).trans d2
      have hbb : b < wr.heap.size := World.block_lt_of_cell? _ _ c0
      have hz_0 : w.heap.size < wr.heap.size := by omega
      have hz_1 : w.heap.size + 1 < wr.heap.size := by omega
      have hz_2 : w.heap.size + 1 + 1 < wr.heap.size := by omega
      have htk := celF_take l k hlt
      obtain ⟨c, hc⟩ : ∃ c, l[k] = c := ⟨_, rfl⟩
      rw [hc] at c0 c1 c2 htk
      obtain ⟨x, y, z⟩ := c
      have HT := Lib.hid htk
      have HO := Lib.hid hown
      have HF := Lib.hid hfz
      clear d0 d1 d2 hc htk hown hfz
      go_wp2
      go_region_law (refine step_append_lies _ rfl (.tmp 16) (.tmp 22) 28 rfl (w.heap.size + 3) 63 i0 (.agg #[.int .i64 0, .bool false, .int .i64 0]) 3 24 Try.underlying28 hi hj0 hj1 hj2 rfl (by decide) (.slice ao k cp) k (celF (l.take k)) (by simp [Act.eval, Act.put]) (HO.out.drew.alloc _) ⟨wr.heap.size, 0, none⟩ 1 1 [.int .i64 x, .bool y, .int .i64 z] (by simp [Act.eval, Act.put]) rfl (World.news_of_block (heap_alloc_new wr.drew _)) (by simp [Value.oneCell']) (by decide) (by unfold maxLen; omega) (by omega) (by simp; omega) _ rfl ?_; intro g cap w1 hown1 hgr hat hlt1; have hb1 : Below (w.heap.size + 3) wr w1 := ((((Below.refl _ _).drew).alloc (by simp; omega) _).grown hgr (by simp; omega) (fun q hq => (HO.out.lt q hq).1)); have k4 := hb1.cell (p := ⟨w.heap.size + 1 + 1, 0, none⟩) (by show w.heap.size + 1 + 1 < _; omega); have q4 : w1.frozen? ⟨w.heap.size + 1 + 1, 0, none⟩ = false := ((frozen_far hb1 _ _ (by omega)).trans (HF.out _ _ (by omega) (by omega))))
      all_goals
        go_wp2
        go_roundw
        case rel =>
          have hB1 : Below w.heap.size w w1 := hB.trans (hb1.mono (by omega))
          have hz1 := hb1.size
          refine ⟨k + 1, by go_num, by omega, ⟨some ⟨g, 0, none⟩, cap, ?_, ownsRow_below (by rw [HT.out]; exact hown1) _ _ (by show w.heap.size + 1 + 1 < _; omega)⟩, ?_, ?_, ?_, ?_, ?_, ?_, ?_⟩
          · rw [cell?_setCell_map, k4, e4]; rfl
          · simp [go_sem]; exact (hb1.cell (p := ⟨w.heap.size + 1 + 1, 1, none⟩) (by show w.heap.size + 1 + 1 < _; omega)).trans e5
          · simp [go_sem]; exact (hb1.cell (p := ⟨w.heap.size, 0, none⟩) (by show w.heap.size < _; omega)).trans e0
          · simp [go_sem]; exact (hb1.cell (p := ⟨w.heap.size + 1, 0, none⟩) (by show w.heap.size + 1 < _; omega)).trans e2
          · simp [go_sem]; exact (hb1.cell (p := ⟨w.heap.size + 1, 1, none⟩) (by show w.heap.size + 1 < _; omega)).trans e3
          · intro b o h1 h2; simp [go_sem]; exact (frozen_far hb1 _ _ (by omega)).trans (HF.out b o h1 h2)
          · simp; omega
          · (repeat (first | (with_reducible exact Below.refl _ _) | ((with_reducible refine below_alloc ?_ ?_ _); · (first | omega | (simp; done) | (simp; omega))) | ((with_reducible refine below_setCell ?_ ?_ _); · (first | omega | (simp; done) | (simp; omega))) | (with_reducible refine Below.drew ?_) | (with_reducible refine below_drewN ?_ _) | ((with_reducible refine below_call (by assumption) ?_ ?_); · (first | omega | (simp; done) | (simp; omega)))))
        case measure => simp [intOf]; omega
    · obtain rfl : k = l.length := by omega
      rw [List.take_length] at hown
      have f2 := hfz (w.heap.size + 1) 0 (by omega) (by omega)
      have f3 := hfz (w.heap.size + 1) 1 (by omega) (by omega)
      go_wp2
      refine bodyPost_ret (v := .agg #[.slice ao l.length cp, .slice pf fr.length cf]) (by simp [results, Try.results9, go_sem, e2, e3]) rfl ⟨_, rfl, OwnC.mono (B := w.heap.size + 3) ((OwnC.below (E := 63) hown _ _ (by show w.heap.size + 1 < _; omega)).below _ _ (by show w.heap.size + 1 < _; omega)) (by omega), ?_⟩
      (repeat (first | (with_reducible exact Below.refl _ _) | ((with_reducible refine below_alloc ?_ ?_ _); · (first | omega | (simp; done) | (simp; omega))) | ((with_reducible refine below_setCell ?_ ?_ _); · (first | omega | (simp; done) | (simp; omega))) | (with_reducible refine Below.drew ?_) | (with_reducible refine below_drewN ?_ _) | ((with_reducible refine below_call (by assumption) ?_ ?_); · (first | omega | (simp; done) | (simp; omega)))))

set_option maxRecDepth 100000 in
set_option maxHeartbeats 4000000 in
theorem back_any (vc vf : Value) (st : St) (w : World) (hv : IsSt w vc vf st) (hl : st.1.length ≤ 1048576) :
    Calls Try.prog 17 #[.agg #[vc, vf]] w fun e w' => ∃ vc', e = .returned (.agg #[vc', vf]) ∧ OwnC 64 w' w.heap.size vc' st.1 ∧ Below w.heap.size w w' := by
  obtain ⟨i0, hi, hj0, hj1, hj2⟩ := info_parts info_cel
  obtain ⟨l, fr⟩ := st
  replace hl : l.length ≤ 1048576 := hl
  obtain ⟨⟨pc, cc, rfl, hp⟩, ⟨pf, cf, rfl, hq⟩⟩ := hv
  have Hp := Lib.hid hp
  clear hp hq
  go_enter Try.func17, Try.ntmps17
  go_wp2
  go_loopw [4] (fun i wr => ∃ k : Nat, i = .int .i64 k ∧ k ≤ l.length ∧ (∃ ao cp, wr.cell? ⟨w.heap.size + 1 + 1, 0, none⟩ = some (.slice ao k cp) ∧ wr.ownsRow (w.heap.size + 3) 64 3 (.slice ao k cp) k (celF (l.take k))) ∧ wr.cell? ⟨w.heap.size + 1 + 1, 1, none⟩ = some (.slice pf fr.length cf) ∧ wr.cell? ⟨w.heap.size, 0, none⟩ = some (.slice pc l.length cc) ∧ wr.cell? ⟨w.heap.size + 1, 0, none⟩ = some (.slice none 0 0) ∧ wr.cell? ⟨w.heap.size + 1, 1, none⟩ = some (.slice none 0 0) ∧ (∀ b o, w.heap.size ≤ b → b < w.heap.size + 3 → wr.frozen? ⟨b, o, none⟩ = false) ∧ w.heap.size + 3 ≤ wr.heap.size ∧ Below w.heap.size w wr) (fun i _ => l.length - (intOf i).toNat)
  case atStart =>
    refine ⟨0, rfl, by omega, ⟨none, 0, ?_, World.ownsRow_nil _ _ _ _⟩, ?_, ?_, ?_, ?_, ?_, ?_, ?_⟩
    · simp [go_sem]
    · simp [go_sem]
    · simp [go_sem]
    · simp [go_sem]
    · simp [go_sem]
    · intro b o h1 h2
      have : b = w.heap.size ∨ b = w.heap.size + 1 ∨ b = w.heap.size + 1 + 1 := by omega
      rcases this with rfl | rfl | rfl <;> simp [go_sem]
    · simp
    · (repeat (first | (with_reducible exact Below.refl _ _) | ((with_reducible refine below_alloc ?_ ?_ _); · (first | omega | (simp; done) | (simp; omega))) | ((with_reducible refine below_setCell ?_ ?_ _); · (first | omega | (simp; done) | (simp; omega))) | (with_reducible refine Below.drew ?_) | (with_reducible refine below_drewN ?_ _) | ((with_reducible refine below_call (by assumption) ?_ ?_); · (first | omega | (simp; done) | (simp; omega)))))
  case round =>
    obtain ⟨k, rfl, hk, ⟨ao, cp, e4, hown⟩, e5, e0, e2, e3, hfz, hsz, hB⟩ := hrel
    by_cases hlt : k < l.length
    · have hlt' : (k : Int) < l.length := by omega
      obtain ⟨b, off, rfl, d0, d1, d2⟩ := Hp.out k hlt
      have c0 := (hB.cell (p := ⟨b, off + k * 3, none⟩) (World.block_lt_of_cell? _ _ d0)).trans d0
      have c1 := (hB.cell (p := ⟨b, off + k * 3 + 1, none⟩) (World.block_lt_of_cell? _ _ d1)).trans d1
      have c2 := (hB.cell (p := ⟨b, off + k * 3 + 2, none⟩) (World.block_lt_of_cell? _ _ d2)).trans d2
      have hbb : b < wr.heap.size := World.block_lt_of_cell? _ _ c0
      have hz_0 : w.heap.size < wr.heap.size := by omega
      have hz_1 : w.heap.size + 1 < wr.heap.size := by omega
      have hz_2 : w.heap.size + 1 + 1 < wr.heap.size := by omega
      have htk := celF_take l k hlt
      obtain ⟨c, hc⟩ : ∃ c, l[k] = c := ⟨_, rfl⟩
      rw [hc] at c0 c1 c2 htk
      obtain ⟨x, y, z⟩ := c
      have HT := Lib.hid htk
      have HO := Lib.hid hown
      have HF := Lib.hid hfz
      clear d0 d1 d2 hc htk hown hfz
      go_wp2
      go_region_law (refine step_append_lies _ rfl (.tmp 16) (.tmp 22) 22 rfl (w.heap.size + 3) 64 i0 (.agg #[.int .i64 0, .bool false, .int .i64 0]) 3 24 Try.underlying22 hi hj0 hj1 hj2 rfl (by decide) (.slice ao k cp) k (celF (l.take k)) (by simp [Act.eval, Act.put]) (HO.out.drew.alloc _) ⟨wr.heap.size, 0, none⟩ 1 1 [.int .i64 x, .bool y, .int .i64 z] (by simp [Act.eval, Act.put]) rfl (World.news_of_block (heap_alloc_new wr.drew _)) (by simp [Value.oneCell']) (by decide) (by unfold maxLen; omega) (by omega) (by simp; omega) _ rfl ?_; intro g cap w1 hown1 hgr hat hlt1; have hb1 : Below (w.heap.size + 3) wr w1 := ((((Below.refl _ _).drew).alloc (by simp; omega) _).grown hgr (by simp; omega) (fun q hq => (HO.out.lt q hq).1)); have k4 := hb1.cell (p := ⟨w.heap.size + 1 + 1, 0, none⟩) (by show w.heap.size + 1 + 1 < _; omega); have q4 : w1.frozen? ⟨w.heap.size + 1 + 1, 0, none⟩ = false := ((frozen_far hb1 _ _ (by omega)).trans (HF.out _ _ (by omega) (by omega))))
      all_goals
        go_wp2
        go_roundw
        case rel =>
          have hB1 : Below w.heap.size w w1 := hB.trans (hb1.mono (by omega))
          have hz1 := hb1.size
          refine ⟨k + 1, by go_num, by omega, ⟨some ⟨g, 0, none⟩, cap, ?_, ownsRow_below (by rw [HT.out]; exact hown1) _ _ (by show w.heap.size + 1 + 1 < _; omega)⟩, ?_, ?_, ?_, ?_, ?_, ?_, ?_⟩
          · rw [cell?_setCell_map, k4, e4]; rfl
          · simp [go_sem]; exact (hb1.cell (p := ⟨w.heap.size + 1 + 1, 1, none⟩) (by show w.heap.size + 1 + 1 < _; omega)).trans e5
          · simp [go_sem]; exact (hb1.cell (p := ⟨w.heap.size, 0, none⟩) (by show w.heap.size < _; omega)).trans e0
          · simp [go_sem]; exact (hb1.cell (p := ⟨w.heap.size + 1, 0, none⟩) (by show w.heap.size + 1 < _; omega)).trans e2
          · simp [go_sem]; exact (hb1.cell (p := ⟨w.heap.size + 1, 1, none⟩) (by show w.heap.size + 1 < _; omega)).trans e3
          · intro b o h1 h2; simp [go_sem]; exact (frozen_far hb1 _ _ (by omega)).trans (HF.out b o h1 h2)
          · simp; omega
          · (repeat (first | (with_reducible exact Below.refl _ _) | ((with_reducible refine below_alloc ?_ ?_ _); · (first | omega | (simp; done) | (simp; omega))) | ((with_reducible refine below_setCell ?_ ?_ _); · (first | omega | (simp; done) | (simp; omega))) | (with_reducible refine Below.drew ?_) | (with_reducible refine below_drewN ?_ _) | ((with_reducible refine below_call (by assumption) ?_ ?_); · (first | omega | (simp; done) | (simp; omega)))))
        case measure => simp [intOf]; omega
    · obtain rfl : k = l.length := by omega
      rw [List.take_length] at hown
      have f2 := hfz (w.heap.size + 1) 0 (by omega) (by omega)
      have f3 := hfz (w.heap.size + 1) 1 (by omega) (by omega)
      go_wp2
      refine bodyPost_ret (v := .agg #[.slice ao l.length cp, .slice pf fr.length cf]) (by simp [results, Try.results17, go_sem, e2, e3]) rfl ⟨_, rfl, OwnC.mono (B := w.heap.size + 3) ((OwnC.below (E := 64) hown _ _ (by show w.heap.size + 1 < _; omega)).below _ _ (by show w.heap.size + 1 < _; omega)) (by omega), ?_⟩
      (repeat (first | (with_reducible exact Below.refl _ _) | ((with_reducible refine below_alloc ?_ ?_ _); · (first | omega | (simp; done) | (simp; omega))) | ((with_reducible refine below_setCell ?_ ?_ _); · (first | omega | (simp; done) | (simp; omega))) | (with_reducible refine Below.drew ?_) | (with_reducible refine below_drewN ?_ _) | ((with_reducible refine below_call (by assumption) ?_ ?_); · (first | omega | (simp; done) | (simp; omega)))))
end Go.Proofs.Ytmnlpmfkoammhaa
