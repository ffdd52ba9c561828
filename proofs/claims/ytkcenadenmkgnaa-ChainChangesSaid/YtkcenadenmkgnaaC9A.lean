/- Contracts of layer 4, the statements' own: a state carried over, there and back; few. -/
import Derived.Test.YtkcenadenmkgnaaC5F
import Derived.Test.YtkcenadenmkgnaaC6A
import Derived.Deep.AppendLies
import Derived.Deep.RegionLaw
namespace Go.Proofs.Ytkcenadenmkgnaa
open Go.RowKit
set_option linter.unusedVariables false
set_option linter.unusedSimpArgs false

theorem nodF_take (l : List Nod) (k : Nat) (h : k < l.length) : nodF (l.take (k + 1)) = nodF (l.take k) ++ [.int .i64 l[k].1, .int .i64 l[k].2.1, .int .i64 l[k].2.2] := by
  rw [List.take_succ_eq_append_getElem h]
  unfold nodF
  rw [List.flatMap_append, List.flatMap_singleton]; rfl
theorem far_frozen {B : Nat} {w w' : World} (h : Below B w w') (b o : Nat) (hb : b < B) : w'.frozen? ⟨b, o, none⟩ = w.frozen? ⟨b, o, none⟩ := h.frozen (p := ⟨b, o, none⟩) hb
theorem row_under {w : World} {B b o : Nat} {E : TypeId} {z m : Nat} {v u : Value} {xs : List Value} (h : w.ownsRow B E z v m xs) (hb : b < B) : (w.setCell ⟨b, o, none⟩ u).ownsRow B E z v m xs := by
  obtain ⟨h1, h2⟩ := h
  refine ⟨h1, ?_⟩
  rcases h2 with h2 | ⟨g, cap, cur, hv, hB, hg, r⟩
  · exact .inl h2
  · exact .inr ⟨g, cap, cur, hv, hB, (Below.heap_setCell w _ u g (by show g ≠ b; omega)).trans hg, r⟩
theorem ownN_low {E : TypeId} {w : World} {B B' : Nat} {v : Value} {l : List Nod} (h : w.ownsRow B E 3 v l.length (nodF l)) (hB : B' ≤ B) : OwnN E w B' v l := by
  obtain ⟨h1, h2⟩ := h
  refine ⟨h1, ?_⟩
  rcases h2 with h2 | ⟨g, cap, cur, hv, hb, r⟩
  · exact .inl h2
  · exact .inr ⟨g, cap, cur, hv, Nat.le_trans hB hb, r⟩

set_option maxRecDepth 100000 in
set_option maxHeartbeats 4000000 in
theorem own4_any (vn vh vt : Value) (st : LSt) (w : World) (hv : IsLS w vn vh vt st) (hl : st.1.length ≤ 1048576) :
    Calls Try.prog 9 #[.agg #[vn, vh, vt]] w fun e w' => ∃ vn', e = .returned (.agg #[vn', vh, vt]) ∧ OwnN 63 w' w.heap.size vn' st.1 ∧ Below w.heap.size w w' := by
  obtain ⟨i0, hi, hj0, hj1, hj2⟩ := info_parts info_nod
  obtain ⟨l, hd, tl⟩ := st
  replace hl : l.length ≤ 1048576 := hl
  obtain ⟨⟨pc, cc, rfl, hp⟩, ⟨ph, ch, rfl, -⟩, ⟨pt, ct, rfl, -⟩⟩ := hv
  have Hp := Lib.hid hp
  clear hp
  go_enter Try.func9, Try.ntmps9
  go_wp2
  go_loopw [4] (fun i wr => ∃ k : Nat, i = .int .i64 k ∧ k ≤ l.length ∧ (∃ ao cp, wr.cell? ⟨w.heap.size + 1 + 1, 0, none⟩ = some (.slice ao k cp) ∧ wr.ownsRow (w.heap.size + 3) 63 3 (.slice ao k cp) k (nodF (l.take k))) ∧ (wr.cell? ⟨w.heap.size + 1 + 1, 1, none⟩ = some (.slice ph hd.length ch) ∧ wr.cell? ⟨w.heap.size + 1 + 1, 2, none⟩ = some (.slice pt tl.length ct)) ∧ wr.cell? ⟨w.heap.size, 0, none⟩ = some (.slice pc l.length cc) ∧ (wr.cell? ⟨w.heap.size + 1, 0, none⟩ = some (.slice none 0 0) ∧ wr.cell? ⟨w.heap.size + 1, 1, none⟩ = some (.slice none 0 0) ∧ wr.cell? ⟨w.heap.size + 1, 2, none⟩ = some (.slice none 0 0)) ∧ (∀ b o, w.heap.size ≤ b → b < w.heap.size + 3 → wr.frozen? ⟨b, o, none⟩ = false) ∧ w.heap.size + 3 ≤ wr.heap.size ∧ Below w.heap.size w wr) (fun i _ => l.length - (intOf i).toNat)
  case atStart =>
    refine ⟨0, rfl, by omega, ⟨none, 0, ?_, World.ownsRow_nil _ _ _ _⟩, ⟨?_, ?_⟩, ?_, ⟨?_, ?_, ?_⟩, ?_, ?_, ?_⟩
    · simp [go_sem]
    · simp [go_sem]
    · simp [go_sem]
    · simp [go_sem]
    · simp [go_sem]
    · simp [go_sem]
    · simp [go_sem]
    · intro b o h1 h2
      have : b = w.heap.size ∨ b = w.heap.size + 1 ∨ b = w.heap.size + 1 + 1 := by omega
      rcases this with rfl | rfl | rfl <;> simp [go_sem]
    · simp
    · (repeat (first | (with_reducible exact Below.refl _ _) | ((with_reducible refine below_alloc ?_ ?_ _); · (first | omega | (simp; done) | (simp; omega))) | ((with_reducible refine below_setCell ?_ ?_ _); · (first | omega | (simp; done) | (simp; omega))) | (with_reducible refine Below.drew ?_) | (with_reducible refine below_drewN ?_ _) | ((with_reducible refine below_call (by assumption) ?_ ?_); · (first | omega | (simp; done) | (simp; omega)))))
  case round =>
    obtain ⟨k, rfl, hk, ⟨ao, cp, e4, hown⟩, ⟨e5, e6⟩, e0, ⟨e2, e3, e7⟩, hfz, hsz, hB⟩ := hrel
    by_cases hlt : k < l.length
    · have hlt' : (k : Int) < l.length := by omega
      obtain ⟨b, off, rfl, d0, d1, d2⟩ := Hp.out k hlt
      have c0 := (hB.cell (p := ⟨b, off + k * 3, none⟩) (World.block_lt_of_cell? _ _ d0)).trans d0
      have c1 := (hB.cell (p := ⟨b, off + k * 3 + 1, none⟩) (World.block_lt_of_cell? _ _ d1)).trans d1
      have c2 := (hB.cell (p := ⟨b, off + k * 3 + 2, none⟩) (World.block_lt_of_cell? _ _ d2)).trans d2
      have hbb : b < wr.heap.size := World.block_lt_of_cell? _ _ c0
      have hz_0 : w.heap.size < wr.heap.size := by omega
      have hz_1 : w.heap.size + 1 < wr.heap.size := by omega
      have hz_2 : w.heap.size + 1 + 1 < wr.heap.size := by omega
      have htk := nodF_take l k hlt
      obtain ⟨c, hc⟩ : ∃ c, l[k] = c := ⟨_, rfl⟩
      rw [hc] at c0 c1 c2 htk
      obtain ⟨x, y, z⟩ := c
      have HT := Lib.hid htk
      have HO := Lib.hid hown
      have HF := Lib.hid hfz
      clear d0 d1 d2 hc htk hown hfz
      go_wp2
      go_region_law (refine step_append_lies _ rfl (.tmp 18) (.tmp 24) 28 rfl (w.heap.size + 3) 63 i0 (.agg #[.int .i64 0, .int .i64 0, .int .i64 0]) 3 24 Try.underlying28 hi hj0 hj1 hj2 rfl (by decide) (.slice ao k cp) k (nodF (l.take k)) (by simp [Act.eval, Act.put]) (HO.out.drew.alloc _) ⟨wr.heap.size, 0, none⟩ 1 1 [.int .i64 x, .int .i64 y, .int .i64 z] (by simp [Act.eval, Act.put]) rfl (World.news_of_block (heap_alloc_new wr.drew _)) (by simp [Value.oneCell']) (by decide) (by unfold maxLen; omega) (by omega) (by simp; omega) _ rfl ?_; intro g cap w1 hown1 hgr hat hlt1; have hb1 : Below (w.heap.size + 3) wr w1 := ((((Below.refl _ _).drew).alloc (by simp; omega) _).grown hgr (by simp; omega) (fun q hq => (HO.out.lt q hq).1)); have k4 := hb1.cell (p := ⟨w.heap.size + 1 + 1, 0, none⟩) (by show w.heap.size + 1 + 1 < _; omega); have q4 : w1.frozen? ⟨w.heap.size + 1 + 1, 0, none⟩ = false := ((far_frozen hb1 _ _ (by omega)).trans (HF.out _ _ (by omega) (by omega))))
      all_goals
        go_wp2
        go_roundw
        case rel =>
          have hB1 : Below w.heap.size w w1 := hB.trans (hb1.mono (by omega))
          have hz1 := hb1.size
          refine ⟨k + 1, by go_num, by omega, ⟨some ⟨g, 0, none⟩, cap, ?_, row_under (by rw [HT.out]; exact hown1) (by omega)⟩, ⟨?_, ?_⟩, ?_, ⟨?_, ?_, ?_⟩, ?_, ?_, ?_⟩
          · rw [cell?_setCell_map, k4, e4]; rfl
          · simp [go_sem]; exact (hb1.cell (p := ⟨w.heap.size + 1 + 1, 1, none⟩) (by show w.heap.size + 1 + 1 < _; omega)).trans e5
          · simp [go_sem]; exact (hb1.cell (p := ⟨w.heap.size + 1 + 1, 2, none⟩) (by show w.heap.size + 1 + 1 < _; omega)).trans e6
          · simp [go_sem]; exact (hb1.cell (p := ⟨w.heap.size, 0, none⟩) (by show w.heap.size < _; omega)).trans e0
          · simp [go_sem]; exact (hb1.cell (p := ⟨w.heap.size + 1, 0, none⟩) (by show w.heap.size + 1 < _; omega)).trans e2
          · simp [go_sem]; exact (hb1.cell (p := ⟨w.heap.size + 1, 1, none⟩) (by show w.heap.size + 1 < _; omega)).trans e3
          · simp [go_sem]; exact (hb1.cell (p := ⟨w.heap.size + 1, 2, none⟩) (by show w.heap.size + 1 < _; omega)).trans e7
          · intro b o h1 h2; simp [go_sem]; exact (far_frozen hb1 _ _ (by omega)).trans (HF.out b o h1 h2)
          · simp; omega
          · (repeat (first | (with_reducible exact Below.refl _ _) | ((with_reducible refine below_alloc ?_ ?_ _); · (first | omega | (simp; done) | (simp; omega))) | ((with_reducible refine below_setCell ?_ ?_ _); · (first | omega | (simp; done) | (simp; omega))) | (with_reducible refine Below.drew ?_) | (with_reducible refine below_drewN ?_ _) | ((with_reducible refine below_call (by assumption) ?_ ?_); · (first | omega | (simp; done) | (simp; omega)))))
        case measure => simp [intOf]; omega
    · obtain rfl : k = l.length := by omega
      rw [List.take_length] at hown
      have f2 := hfz (w.heap.size + 1) 0 (by omega) (by omega)
      have f3 := hfz (w.heap.size + 1) 1 (by omega) (by omega)
      have f4 := hfz (w.heap.size + 1) 2 (by omega) (by omega)
      have HO := Lib.hid hown
      clear hown
      go_wp2
      refine bodyPost_ret (v := .agg #[.slice ao l.length cp, .slice ph hd.length ch, .slice pt tl.length ct]) (by simp [results, Try.results9, go_sem, e2, e3, e7]) rfl ⟨_, rfl, ownN_low (B := w.heap.size + 3) (row_under (row_under (row_under HO.out (by omega)) (by omega)) (by omega)) (by omega), ?_⟩
      (repeat (first | (with_reducible exact Below.refl _ _) | ((with_reducible refine below_alloc ?_ ?_ _); · (first | omega | (simp; done) | (simp; omega))) | ((with_reducible refine below_setCell ?_ ?_ _); · (first | omega | (simp; done) | (simp; omega))) | (with_reducible refine Below.drew ?_) | (with_reducible refine below_drewN ?_ _) | ((with_reducible refine below_call (by assumption) ?_ ?_); · (first | omega | (simp; done) | (simp; omega)))))

set_option maxRecDepth 100000 in
set_option maxHeartbeats 4000000 in
theorem back4_any (vn vh vt : Value) (st : LSt) (w : World) (hv : IsLS w vn vh vt st) (hl : st.1.length ≤ 1048576) :
    Calls Try.prog 17 #[.agg #[vn, vh, vt]] w fun e w' => ∃ vn', e = .returned (.agg #[vn', vh, vt]) ∧ OwnN 64 w' w.heap.size vn' st.1 ∧ Below w.heap.size w w' := by
  obtain ⟨i0, hi, hj0, hj1, hj2⟩ := info_parts info_nodR
  obtain ⟨l, hd, tl⟩ := st
  replace hl : l.length ≤ 1048576 := hl
  obtain ⟨⟨pc, cc, rfl, hp⟩, ⟨ph, ch, rfl, -⟩, ⟨pt, ct, rfl, -⟩⟩ := hv
  have Hp := Lib.hid hp
  clear hp
  go_enter Try.func17, Try.ntmps17
  go_wp2
  go_loopw [4] (fun i wr => ∃ k : Nat, i = .int .i64 k ∧ k ≤ l.length ∧ (∃ ao cp, wr.cell? ⟨w.heap.size + 1 + 1, 0, none⟩ = some (.slice ao k cp) ∧ wr.ownsRow (w.heap.size + 3) 64 3 (.slice ao k cp) k (nodF (l.take k))) ∧ (wr.cell? ⟨w.heap.size + 1 + 1, 1, none⟩ = some (.slice ph hd.length ch) ∧ wr.cell? ⟨w.heap.size + 1 + 1, 2, none⟩ = some (.slice pt tl.length ct)) ∧ wr.cell? ⟨w.heap.size, 0, none⟩ = some (.slice pc l.length cc) ∧ (wr.cell? ⟨w.heap.size + 1, 0, none⟩ = some (.slice none 0 0) ∧ wr.cell? ⟨w.heap.size + 1, 1, none⟩ = some (.slice none 0 0) ∧ wr.cell? ⟨w.heap.size + 1, 2, none⟩ = some (.slice none 0 0)) ∧ (∀ b o, w.heap.size ≤ b → b < w.heap.size + 3 → wr.frozen? ⟨b, o, none⟩ = false) ∧ w.heap.size + 3 ≤ wr.heap.size ∧ Below w.heap.size w wr) (fun i _ => l.length - (intOf i).toNat)
  case atStart =>
    refine ⟨0, rfl, by omega, ⟨none, 0, ?_, World.ownsRow_nil _ _ _ _⟩, ⟨?_, ?_⟩, ?_, ⟨?_, ?_, ?_⟩, ?_, ?_, ?_⟩
    · simp [go_sem]
    · simp [go_sem]
    · simp [go_sem]
    · simp [go_sem]
    · simp [go_sem]
    · simp [go_sem]
    · simp [go_sem]
    · intro b o h1 h2
      have : b = w.heap.size ∨ b = w.heap.size + 1 ∨ b = w.heap.size + 1 + 1 := by omega
      rcases this with rfl | rfl | rfl <;> simp [go_sem]
    · simp
    · (repeat (first | (with_reducible exact Below.refl _ _) | ((with_reducible refine below_alloc ?_ ?_ _); · (first | omega | (simp; done) | (simp; omega))) | ((with_reducible refine below_setCell ?_ ?_ _); · (first | omega | (simp; done) | (simp; omega))) | (with_reducible refine Below.drew ?_) | (with_reducible refine below_drewN ?_ _) | ((with_reducible refine below_call (by assumption) ?_ ?_); · (first | omega | (simp; done) | (simp; omega)))))
  case round =>
    obtain ⟨k, rfl, hk, ⟨ao, cp, e4, hown⟩, ⟨e5, e6⟩, e0, ⟨e2, e3, e7⟩, hfz, hsz, hB⟩ := hrel
    by_cases hlt : k < l.length
    · have hlt' : (k : Int) < l.length := by omega
      obtain ⟨b, off, rfl, d0, d1, d2⟩ := Hp.out k hlt
      have c0 := (hB.cell (p := ⟨b, off + k * 3, none⟩) (World.block_lt_of_cell? _ _ d0)).trans d0
      have c1 := (hB.cell (p := ⟨b, off + k * 3 + 1, none⟩) (World.block_lt_of_cell? _ _ d1)).trans d1
      have c2 := (hB.cell (p := ⟨b, off + k * 3 + 2, none⟩) (World.block_lt_of_cell? _ _ d2)).trans d2
      have hbb : b < wr.heap.size := World.block_lt_of_cell? _ _ c0
      have hz_0 : w.heap.size < wr.heap.size := by omega
      have hz_1 : w.heap.size + 1 < wr.heap.size := by omega
      have hz_2 : w.heap.size + 1 + 1 < wr.heap.size := by omega
      have htk := nodF_take l k hlt
      obtain ⟨c, hc⟩ : ∃ c, l[k] = c := ⟨_, rfl⟩
      rw [hc] at c0 c1 c2 htk
      obtain ⟨x, y, z⟩ := c
      have HT := Lib.hid htk
      have HO := Lib.hid hown
      have HF := Lib.hid hfz
      clear d0 d1 d2 hc htk hown hfz
      go_wp2
      go_region_law (refine step_append_lies _ rfl (.tmp 18) (.tmp 24) 22 rfl (w.heap.size + 3) 64 i0 (.agg #[.int .i64 0, .int .i64 0, .int .i64 0]) 3 24 Try.underlying22 hi hj0 hj1 hj2 rfl (by decide) (.slice ao k cp) k (nodF (l.take k)) (by simp [Act.eval, Act.put]) (HO.out.drew.alloc _) ⟨wr.heap.size, 0, none⟩ 1 1 [.int .i64 x, .int .i64 y, .int .i64 z] (by simp [Act.eval, Act.put]) rfl (World.news_of_block (heap_alloc_new wr.drew _)) (by simp [Value.oneCell']) (by decide) (by unfold maxLen; omega) (by omega) (by simp; omega) _ rfl ?_; intro g cap w1 hown1 hgr hat hlt1; have hb1 : Below (w.heap.size + 3) wr w1 := ((((Below.refl _ _).drew).alloc (by simp; omega) _).grown hgr (by simp; omega) (fun q hq => (HO.out.lt q hq).1)); have k4 := hb1.cell (p := ⟨w.heap.size + 1 + 1, 0, none⟩) (by show w.heap.size + 1 + 1 < _; omega); have q4 : w1.frozen? ⟨w.heap.size + 1 + 1, 0, none⟩ = false := ((far_frozen hb1 _ _ (by omega)).trans (HF.out _ _ (by omega) (by omega))))
      all_goals
        go_wp2
        go_roundw
        case rel =>
          have hB1 : Below w.heap.size w w1 := hB.trans (hb1.mono (by omega))
          have hz1 := hb1.size
          refine ⟨k + 1, by go_num, by omega, ⟨some ⟨g, 0, none⟩, cap, ?_, row_under (by rw [HT.out]; exact hown1) (by omega)⟩, ⟨?_, ?_⟩, ?_, ⟨?_, ?_, ?_⟩, ?_, ?_, ?_⟩
          · rw [cell?_setCell_map, k4, e4]; rfl
          · simp [go_sem]; exact (hb1.cell (p := ⟨w.heap.size + 1 + 1, 1, none⟩) (by show w.heap.size + 1 + 1 < _; omega)).trans e5
          · simp [go_sem]; exact (hb1.cell (p := ⟨w.heap.size + 1 + 1, 2, none⟩) (by show w.heap.size + 1 + 1 < _; omega)).trans e6
          · simp [go_sem]; exact (hb1.cell (p := ⟨w.heap.size, 0, none⟩) (by show w.heap.size < _; omega)).trans e0
          · simp [go_sem]; exact (hb1.cell (p := ⟨w.heap.size + 1, 0, none⟩) (by show w.heap.size + 1 < _; omega)).trans e2
          · simp [go_sem]; exact (hb1.cell (p := ⟨w.heap.size + 1, 1, none⟩) (by show w.heap.size + 1 < _; omega)).trans e3
          · simp [go_sem]; exact (hb1.cell (p := ⟨w.heap.size + 1, 2, none⟩) (by show w.heap.size + 1 < _; omega)).trans e7
          · intro b o h1 h2; simp [go_sem]; exact (far_frozen hb1 _ _ (by omega)).trans (HF.out b o h1 h2)
          · simp; omega
          · (repeat (first | (with_reducible exact Below.refl _ _) | ((with_reducible refine below_alloc ?_ ?_ _); · (first | omega | (simp; done) | (simp; omega))) | ((with_reducible refine below_setCell ?_ ?_ _); · (first | omega | (simp; done) | (simp; omega))) | (with_reducible refine Below.drew ?_) | (with_reducible refine below_drewN ?_ _) | ((with_reducible refine below_call (by assumption) ?_ ?_); · (first | omega | (simp; done) | (simp; omega)))))
        case measure => simp [intOf]; omega
    · obtain rfl : k = l.length := by omega
      rw [List.take_length] at hown
      have f2 := hfz (w.heap.size + 1) 0 (by omega) (by omega)
      have f3 := hfz (w.heap.size + 1) 1 (by omega) (by omega)
      have f4 := hfz (w.heap.size + 1) 2 (by omega) (by omega)
      have HO := Lib.hid hown
      clear hown
      go_wp2
      refine bodyPost_ret (v := .agg #[.slice ao l.length cp, .slice ph hd.length ch, .slice pt tl.length ct]) (by simp [results, Try.results17, go_sem, e2, e3, e7]) rfl ⟨_, rfl, ownN_low (B := w.heap.size + 3) (row_under (row_under (row_under HO.out (by omega)) (by omega)) (by omega)) (by omega), ?_⟩
      (repeat (first | (with_reducible exact Below.refl _ _) | ((with_reducible refine below_alloc ?_ ?_ _); · (first | omega | (simp; done) | (simp; omega))) | ((with_reducible refine below_setCell ?_ ?_ _); · (first | omega | (simp; done) | (simp; omega))) | (with_reducible refine Below.drew ?_) | (with_reducible refine below_drewN ?_ _) | ((with_reducible refine below_call (by assumption) ?_ ?_); · (first | omega | (simp; done) | (simp; omega)))))

/-- few places and lists -/
def fewB (st : LSt) : Bool := decide (st.1.length ≤ 70) && decide (st.2.1.length ≤ 20) && decide (st.2.2.length ≤ 20)
theorem few_any (vn vh vt : Value) (st : LSt) (w : World) (hv : IsLS w vn vh vt st) :
    Calls Try.prog 7 #[.agg #[vn, vh, vt]] w fun e w' => e = .returned (.bool (fewB st)) ∧ Below w.heap.size w w' := by
  obtain ⟨l, hd, tl⟩ := st
  obtain ⟨⟨pc, cc, rfl, -⟩, ⟨ph, ch, rfl, -⟩, ⟨pt, ct, rfl, -⟩⟩ := hv
  have HN : Hid (fewB (l, hd, tl) = (decide (l.length ≤ 70) && decide (hd.length ≤ 20) && decide (tl.length ≤ 20))) := Lib.hid rfl
  by_cases h1 : l.length ≤ 70
  · by_cases h2 : hd.length ≤ 20
    · have h1' : (l.length : Int) ≤ 70 := by omega
      have h2' : (hd.length : Int) ≤ 20 := by omega
      by_cases h3 : tl.length ≤ 20
      · have h3' : (tl.length : Int) ≤ 20 := by omega
        go_enter Try.func7, Try.ntmps7
        go_wp2
        go_ret
        exact ⟨ret_bool (by rw [HN.out]; simp [h1, h2, h3]), by (repeat (first | (with_reducible exact Below.refl _ _) | ((with_reducible refine below_alloc ?_ ?_ _); · (first | omega | (simp; done) | (simp; omega))) | ((with_reducible refine below_setCell ?_ ?_ _); · (first | omega | (simp; done) | (simp; omega))) | (with_reducible refine Below.drew ?_) | (with_reducible refine below_drewN ?_ _) | ((with_reducible refine below_call (by assumption) ?_ ?_); · (first | omega | (simp; done) | (simp; omega)))))⟩
      · have h3' : ¬ (tl.length : Int) ≤ 20 := by omega
        go_enter Try.func7, Try.ntmps7
        go_wp2
        go_ret
        exact ⟨ret_bool (by rw [HN.out]; simp [h1, h2, h3]), by (repeat (first | (with_reducible exact Below.refl _ _) | ((with_reducible refine below_alloc ?_ ?_ _); · (first | omega | (simp; done) | (simp; omega))) | ((with_reducible refine below_setCell ?_ ?_ _); · (first | omega | (simp; done) | (simp; omega))) | (with_reducible refine Below.drew ?_) | (with_reducible refine below_drewN ?_ _) | ((with_reducible refine below_call (by assumption) ?_ ?_); · (first | omega | (simp; done) | (simp; omega)))))⟩
    · have h1' : (l.length : Int) ≤ 70 := by omega
      have h2' : ¬ (hd.length : Int) ≤ 20 := by omega
      go_enter Try.func7, Try.ntmps7
      go_wp2
      go_ret
      exact ⟨ret_bool (by rw [HN.out]; simp [h1, h2]), by (repeat (first | (with_reducible exact Below.refl _ _) | ((with_reducible refine below_alloc ?_ ?_ _); · (first | omega | (simp; done) | (simp; omega))) | ((with_reducible refine below_setCell ?_ ?_ _); · (first | omega | (simp; done) | (simp; omega))) | (with_reducible refine Below.drew ?_) | (with_reducible refine below_drewN ?_ _) | ((with_reducible refine below_call (by assumption) ?_ ?_); · (first | omega | (simp; done) | (simp; omega)))))⟩
  · have h1' : ¬ (l.length : Int) ≤ 70 := by omega
    go_enter Try.func7, Try.ntmps7
    go_wp2
    go_ret
    exact ⟨ret_bool (by rw [HN.out]; simp [h1]), by (repeat (first | (with_reducible exact Below.refl _ _) | ((with_reducible refine below_alloc ?_ ?_ _); · (first | omega | (simp; done) | (simp; omega))) | ((with_reducible refine below_setCell ?_ ?_ _); · (first | omega | (simp; done) | (simp; omega))) | (with_reducible refine Below.drew ?_) | (with_reducible refine below_drewN ?_ _) | ((with_reducible refine below_call (by assumption) ?_ ?_); · (first | omega | (simp; done) | (simp; omega)))))⟩
end Go.Proofs.Ytkcenadenmkgnaa
