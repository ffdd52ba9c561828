/- Contracts of layer 4, the program's, that write: join, putBehind, takeOut. -/
import Derived.Test.YtkcenadenmkgnaaC5F
import Derived.Test.YtkcenadenmkgnaaC5N
namespace Go.Proofs.Ytkcenadenmkgnaa
open Go.RowKit
set_option linter.unusedVariables false
set_option linter.unusedSimpArgs false

theorem below_at {B : Nat} {w W : World} (h : Below B w W) {b o : Nat} (u : Value) (hb : B ≤ b) : Below B w (W.setCell ⟨b, o, none⟩ u) := below_setCell hb h u

/-- all that lay in w lies in w' as it did, but for three blocks -/
def But3 (w w' : World) (gn gh gt : Nat) : Prop := ∀ q, q < w.heap.size → q ≠ gn → q ≠ gh → q ≠ gt → w'.heap[q]? = w.heap[q]?
theorem But3.refl (w : World) (gn gh gt : Nat) : But3 w w gn gh gt := fun _ _ _ _ _ => rfl
theorem But3.set {w W : World} {gn gh gt : Nat} (h : But3 w W gn gh gt) {g o : Nat} (u : Value) (hg : g = gn ∨ g = gh ∨ g = gt) : But3 w (W.setCell ⟨g, o, none⟩ u) gn gh gt :=
  fun q hq h1 h2 h3 => (Below.heap_setCell W ⟨g, o, none⟩ u q (by show q ≠ g; rcases hg with rfl | rfl | rfl <;> assumption)).trans (h q hq h1 h2 h3)
theorem But3.alloc {w W : World} {gn gh gt : Nat} (h : But3 w W gn gh gt) (o : Obj) (hs : w.heap.size ≤ W.heap.size) : But3 w (W.alloc o) gn gh gt :=
  fun q hq h1 h2 h3 => (Below.heap_alloc W o q (by omega)).trans (h q hq h1 h2 h3)
theorem But3.trans {w w1 w2 : World} {gn gh gt : Nat} (h : But3 w w1 gn gh gt) (h' : But3 w1 w2 gn gh gt) (hs : w.heap.size ≤ w1.heap.size) : But3 w w2 gn gh gt :=
  fun q hq h1 h2 h3 => (h' q (by omega) h1 h2 h3).trans (h q hq h1 h2 h3)
theorem But3.below {w w1 : World} (gn gh gt : Nat) (h : Below w.heap.size w w1) : But3 w w1 gn gh gt := fun q hq _ _ _ => h.block q hq
theorem But3.cell {w w' : World} {gn gh gt : Nat} (h : But3 w w' gn gh gt) {b o : Nat} {v : Value} (hv : w.cell? ⟨b, o, none⟩ = some v) (h1 : b ≠ gn) (h2 : b ≠ gh) (h3 : b ≠ gt) : w'.cell? ⟨b, o, none⟩ = some v :=
  (World.cell?_of_block (w := w) (a := ⟨b, o, none⟩) (h b (World.block_lt_of_cell? _ _ hv) h1 h2 h3)).trans hv

set_option maxRecDepth 100000 in
set_option maxHeartbeats 2000000 in
theorem join_any (B n k gn gh gt cn ch ct : Nat) (st : LSt) (i : Nat) (a b : Int) (w : World) (h : OwnLS w B n k gn gh gt cn ch ct st) (hB : B ≤ w.heap.size) (hi : i < k) (ha : -1 ≤ a ∧ a < n) (hb : -1 ≤ b ∧ b < n) (hn : n ≤ 64) (hk : k ≤ 8) :
    Calls Try.prog 61 #[.agg #[.slice (some ⟨gn, 0, none⟩) n cn, .slice (some ⟨gh, 0, none⟩) k ch, .slice (some ⟨gt, 0, none⟩) k ct], .int .i64 i, .int .i64 a, .int .i64 b] w fun e w' =>
      e = .returned (.tuple #[]) ∧ OwnLS w' B n k gn gh gt cn ch ct (joinP st i a b) ∧ But3 w w' gn gh gt ∧ Below B w w' := by
  obtain ⟨⟨ln1, ln2⟩, ⟨lh1, lh2⟩, ⟨lt1, lt2⟩⟩ := h.lt
  have f1 := fun j => h.nods.frozenAt j
  have f2 := fun j => h.heads.frozenAt j
  have f3 := fun j => h.tails.frozenAt j
  have hi' : (i : Int) < k := by omega
  have hn' : (n : Int) ≤ 64 := by omega
  have hk' : (k : Int) ≤ 8 := by omega
  have n1 : gn ≠ w.heap.size := by omega
  have n1' := n1.symm
  have n2 : gh ≠ w.heap.size := by omega
  have n2' := n2.symm
  have n3 : gt ≠ w.heap.size := by omega
  have n3' := n3.symm
  obtain ⟨q1, q2, q3⟩ := h.ne
  have q1' := q1.symm
  have q2' := q2.symm
  have q3' := q3.symm
  have dh := h.hd hi
  have dt := h.tl hi
  have HO := Lib.hid h
  have HB := Lib.hid hB
  by_cases ea : a = -1
  · subst ea
    by_cases eb : b = -1
    · subst eb
      have hj : Hid (joinP st i (-1) (-1) = (st.1, st.2.1.set i (-1), st.2.2.set i (-1))) := Lib.hid rfl
      clear h
      go_enter Try.func61, Try.ntmps61
      go_wp2
      go_end0
      rw [hj.out]
      exact ⟨rfl, OwnLS.call ((HO.out.setH (j := i) (-1)).setT (j := i) (-1)) ((Below.refl _ _).alloc (Nat.le_refl _) _), (((But3.refl _ _ _ _).set _ (.inr (.inl rfl))).set _ (.inr (.inr rfl))).alloc _ (by simp only [World.size_setCell]; omega), (below_at (below_at (Below.refl B w) _ lh1) _ lt1).alloc (by simp only [World.size_setCell]; exact HB.out) _⟩
    · obtain ⟨y, rfl⟩ : ∃ y : Nat, b = y := ⟨b.toNat, by omega⟩
      have hyn : y < n := by omega
      have hyl : (y : Int) < n := by omega
      have hy0 : (0 : Int) ≤ y := by omega
      have ey : ((y : Int) == -1) = false := by simp
      obtain ⟨d0, d1, d2⟩ := h.nod hyn
      have hj : Hid (joinP st i (-1) y = (st.1.set y ((nodAt st.1 y).1, (nodAt st.1 y).2.1, -1), st.2.1.set i y, st.2.2)) := Lib.hid (by unfold joinP; rw [if_neg eb, Int.toNat_natCast]; rfl)
      clear h eb d0 d1
      go_enter Try.func61, Try.ntmps61
      go_wp2
      go_end0
      rw [hj.out]
      exact ⟨rfl, OwnLS.call ((HO.out.setH (j := i) (y : Int)).setN2 hyn (-1)) ((Below.refl _ _).alloc (Nat.le_refl _) _), (((But3.refl _ _ _ _).set _ (.inr (.inl rfl))).set _ (.inl rfl)).alloc _ (by simp only [World.size_setCell]; omega), (below_at (below_at (Below.refl B w) _ lh1) _ ln1).alloc (by simp only [World.size_setCell]; exact HB.out) _⟩
  · obtain ⟨x, rfl⟩ : ∃ x : Nat, a = x := ⟨a.toNat, by omega⟩
    have hxn : x < n := by omega
    have hxl : (x : Int) < n := by omega
    have hx0 : (0 : Int) ≤ x := by omega
    have ex : ((x : Int) == -1) = false := by simp
    obtain ⟨c0, c1, c2⟩ := h.nod hxn
    by_cases eb : b = -1
    · subst eb
      have hj : Hid (joinP st i x (-1) = (st.1.set x ((nodAt st.1 x).1, -1, (nodAt st.1 x).2.2), st.2.1, st.2.2.set i x)) := Lib.hid (by unfold joinP; rw [if_neg ea, Int.toNat_natCast]; rfl)
      clear h ea c0 c2
      go_enter Try.func61, Try.ntmps61
      go_wp2
      go_end0
      rw [hj.out]
      exact ⟨rfl, OwnLS.call ((HO.out.setN1 hxn (-1)).setT (j := i) (x : Int)) ((Below.refl _ _).alloc (Nat.le_refl _) _), (((But3.refl _ _ _ _).set _ (.inl rfl)).set _ (.inr (.inr rfl))).alloc _ (by simp only [World.size_setCell]; omega), (below_at (below_at (Below.refl B w) _ ln1) _ lt1).alloc (by simp only [World.size_setCell]; exact HB.out) _⟩
    · obtain ⟨y, rfl⟩ : ∃ y : Nat, b = y := ⟨b.toNat, by omega⟩
      have hyn : y < n := by omega
      have hyl : (y : Int) < n := by omega
      have hy0 : (0 : Int) ≤ y := by omega
      have ey : ((y : Int) == -1) = false := by simp
      obtain ⟨d0, d1, d2⟩ := h.nod hyn
      have hj : Hid (joinP st i x y = ((st.1.set x ((nodAt st.1 x).1, (y : Int), (nodAt st.1 x).2.2)).set y ((nodAt (st.1.set x ((nodAt st.1 x).1, (y : Int), (nodAt st.1 x).2.2)) y).1, (nodAt (st.1.set x ((nodAt st.1 x).1, (y : Int), (nodAt st.1 x).2.2)) y).2.1, (x : Int)), st.2.1, st.2.2)) := Lib.hid (by unfold joinP; rw [if_neg ea, if_neg eb, Int.toNat_natCast, Int.toNat_natCast])
      have hxy : ¬ (x * 3 + 1 = y * 3 + 2) := by omega
      have hyx : ¬ (y * 3 + 2 = x * 3 + 1) := by omega
      clear h ea eb c0 c2 d0 d1
      go_enter Try.func61, Try.ntmps61
      go_wp2
      go_end0
      rw [hj.out]
      exact ⟨rfl, OwnLS.call ((HO.out.setN1 hxn (y : Int)).setN2 hyn (x : Int)) ((Below.refl _ _).alloc (Nat.le_refl _) _), (((But3.refl _ _ _ _).set _ (.inl rfl)).set _ (.inl rfl)).alloc _ (by simp only [World.size_setCell]; omega), (below_at (below_at (Below.refl B w) _ ln1) _ ln1).alloc (by simp only [World.size_setCell]; exact HB.out) _⟩

set_option maxRecDepth 100000 in
set_option maxHeartbeats 4000000 in
theorem putbehind_any (B n k gn gh gt cn ch ct : Nat) (st : LSt) (i x : Nat) (w : World) (h : OwnLS w B n k gn gh gt cn ch ct st) (hB : B ≤ w.heap.size) (hi : i < k) (hx : x < n) (ht : -1 ≤ st.2.2.getD i (-1) ∧ st.2.2.getD i (-1) < n) (hn : n ≤ 64) (hk : k ≤ 8) :
    Calls Try.prog 37 #[.agg #[.slice (some ⟨gn, 0, none⟩) n cn, .slice (some ⟨gh, 0, none⟩) k ch, .slice (some ⟨gt, 0, none⟩) k ct], .int .i64 i, .int .i64 x] w fun e w' =>
      e = .returned (.tuple #[]) ∧ OwnLS w' B n k gn gh gt cn ch ct (putP st i x) ∧ But3 w w' gn gh gt ∧ Below B w w' := by
  obtain ⟨⟨ln1, ln2⟩, ⟨lh1, lh2⟩, ⟨lt1, lt2⟩⟩ := h.lt
  have f1 := fun j => h.nods.frozenAt j
  have hi' : (i : Int) < k := by omega
  have hx' : (x : Int) < n := by omega
  have hn' : (n : Int) ≤ 64 := by omega
  have n1 : gn ≠ w.heap.size := by omega
  have n1' := n1.symm
  have n3 : gt ≠ w.heap.size := by omega
  have n3' := n3.symm
  have n2 : gh ≠ w.heap.size := by omega
  have n2' := n2.symm
  obtain ⟨q1, q2, q3⟩ := h.ne
  have q2' := q2.symm
  obtain ⟨c0, -, -⟩ := h.nod hx
  have dt := h.tl hi
  obtain ⟨t, ht'⟩ : ∃ t, st.2.2.getD i (-1) = t := ⟨_, rfl⟩
  have hput : putP st i x = joinP (joinP (st.1.set x ((i : Int), (nodAt st.1 x).2.1, (nodAt st.1 x).2.2), st.2.1, st.2.2) i t x) i x (-1) := by unfold putP; rw [ht']
  rw [ht'] at dt ht
  obtain ⟨s0, hs0⟩ : ∃ s : LSt, (st.1.set x ((i : Int), (nodAt st.1 x).2.1, (nodAt st.1 x).2.2), st.2.1, st.2.2) = s := ⟨_, rfl⟩
  have h0 := h.setN0 hx (i : Int)
  rw [hs0] at h0 hput
  have HP := Lib.hid hput
  have H0 := Lib.hid h0
  have HB := Lib.hid hB
  have cj := fun W (hW : OwnLS W B n k gn gh gt cn ch ct s0) (hBW : B ≤ W.heap.size) => join_any B n k gn gh gt cn ch ct s0 i t x W hW hBW hi ht (by omega) hn hk
  have cj2 := fun W (hW : OwnLS W B n k gn gh gt cn ch ct (joinP s0 i t x)) (hBW : B ≤ W.heap.size) => join_any B n k gn gh gt cn ch ct (joinP s0 i t x) i x (-1) W hW hBW hi (by omega) (by omega) hn hk
  have CJ := Lib.hid cj
  have CJ2 := Lib.hid cj2
  clear h h0 hput hs0 cj cj2 ht' ht
  go_enter Try.func37, Try.ntmps37
  go_wp2
  go_region_with (go_at_call 61; refine (CJ.out _ (H0.out.call (by (repeat (first | (with_reducible exact Below.refl _ _) | ((with_reducible refine below_alloc ?_ ?_ _); · (first | omega | (simp; done) | (simp; omega))) | ((with_reducible refine below_setCell ?_ ?_ _); · (first | omega | (simp; done) | (simp; omega))) | (with_reducible refine Below.drew ?_) | (with_reducible refine below_drewN ?_ _) | ((with_reducible refine below_call (by assumption) ?_ ?_); · (first | omega | (simp; done) | (simp; omega))))))) (by simp; omega)).mono ?_; rintro e w2 ⟨rfl, hO2, hu2, hb2⟩; have hz2 := hb2.size; simp only [World.size_drew, World.size_alloc, World.size_setCell] at hz2)
  all_goals
    have e0 : w2.cell? ⟨w.heap.size, 0, none⟩ = some (.slice (some ⟨gn, 0, none⟩) n cn) := hu2.cell (by simp [go_sem, n1']) n1' n2' n3'
    have e1 : w2.cell? ⟨w.heap.size, 1, none⟩ = some (.slice (some ⟨gh, 0, none⟩) k ch) := hu2.cell (by simp [go_sem, n1']) n1' n2' n3'
    have e2 : w2.cell? ⟨w.heap.size, 2, none⟩ = some (.slice (some ⟨gt, 0, none⟩) k ct) := hu2.cell (by simp [go_sem, n1']) n1' n2' n3'
    have u0 : But3 w ((w.setCell ⟨gn, x * 3, none⟩ (.int .i64 i)).alloc (.cells #[.slice (some ⟨gn, 0, none⟩) n cn, .slice (some ⟨gh, 0, none⟩) k ch, .slice (some ⟨gt, 0, none⟩) k ct] 30)).drew gn gh gt := ((But3.refl w gn gh gt).set _ (.inl rfl)).alloc _ (by simp)
    have b0 : Below B w ((w.setCell ⟨gn, x * 3, none⟩ (.int .i64 i)).alloc (.cells #[.slice (some ⟨gn, 0, none⟩) n cn, .slice (some ⟨gh, 0, none⟩) k ch, .slice (some ⟨gt, 0, none⟩) k ct] 30)).drew := ((below_at (Below.refl B w) _ ln1).alloc (by simp; exact HB.out) _).drew
    have HU := Lib.hid (And.intro (u0.trans hu2 (by simp)) (b0.trans hb2))
    clear u0 b0 hu2 hb2
    go_wp2_with fail
    refine (CJ2.out _ hO2 (by omega)).mono ?_; rintro e w3 ⟨rfl, hO3, hu3, hb3⟩
    go_wp2_with fail
    go_end0
    rw [HP.out]
    exact ⟨rfl, hO3, HU.out.1.trans hu3 (by omega), HU.out.2.trans hb3⟩

set_option maxRecDepth 100000 in
set_option maxHeartbeats 4000000 in
theorem takeout_any (B n k gn gh gt cn ch ct : Nat) (st : LSt) (i x : Nat) (w : World) (h : OwnLS w B n k gn gh gt cn ch ct st) (hB : B ≤ w.heap.size) (hi : i < k) (hx : x < n) (hc : (nodAt st.1 x).1 = i) (h1 : -1 ≤ (nodAt st.1 x).2.1 ∧ (nodAt st.1 x).2.1 < n) (h2 : -1 ≤ (nodAt st.1 x).2.2 ∧ (nodAt st.1 x).2.2 < n) (hn : n ≤ 64) (hk : k ≤ 8) :
    Calls Try.prog 42 #[.agg #[.slice (some ⟨gn, 0, none⟩) n cn, .slice (some ⟨gh, 0, none⟩) k ch, .slice (some ⟨gt, 0, none⟩) k ct], .int .i64 x] w fun e w' =>
      e = .returned (.tuple #[]) ∧ OwnLS w' B n k gn gh gt cn ch ct (outP st x) ∧ But3 w w' gn gh gt ∧ Below B w w' := by
  obtain ⟨⟨ln1, ln2⟩, ⟨lh1, lh2⟩, ⟨lt1, lt2⟩⟩ := h.lt
  have hx' : (x : Int) < n := by omega
  have hn' : (n : Int) ≤ 64 := by omega
  have n1 : gn ≠ w.heap.size := by omega
  have n1' := n1.symm
  have n3 : gt ≠ w.heap.size := by omega
  have n3' := n3.symm
  have n2 : gh ≠ w.heap.size := by omega
  have n2' := n2.symm
  obtain ⟨c0, c1, c2⟩ := h.nod hx
  obtain ⟨y1, hy1⟩ : ∃ t, (nodAt st.1 x).2.1 = t := ⟨_, rfl⟩
  obtain ⟨y2, hy2⟩ : ∃ t, (nodAt st.1 x).2.2 = t := ⟨_, rfl⟩
  have hout : outP st x = ((joinP st i y2 y1).1.set x (-1, -1, -1), (joinP st i y2 y1).2.1, (joinP st i y2 y1).2.2) := by unfold outP; rw [hc, hy1, hy2, Int.toNat_natCast]
  rw [hc] at c0
  rw [hy1] at c1 h1
  rw [hy2] at c2 h2
  have HP := Lib.hid hout
  have H0 := Lib.hid h
  have HB := Lib.hid hB
  have CJ : Hid (∀ W (hW : OwnLS W B n k gn gh gt cn ch ct st) (hBW : B ≤ W.heap.size), _) := Lib.hid (fun W hW hBW => join_any B n k gn gh gt cn ch ct st i y2 y1 W hW hBW hi h2 h1 hn hk)
  have ca := fun W => alone_any W
  clear h hout hc hy1 hy2 h1 h2
  go_enter Try.func42, Try.ntmps42
  go_wp2_with fail
  refine (CJ.out _ (H0.out.call (by (repeat (first | (with_reducible exact Below.refl _ _) | ((with_reducible refine below_alloc ?_ ?_ _); · (first | omega | (simp; done) | (simp; omega))) | ((with_reducible refine below_setCell ?_ ?_ _); · (first | omega | (simp; done) | (simp; omega))) | (with_reducible refine Below.drew ?_) | (with_reducible refine below_drewN ?_ _) | ((with_reducible refine below_call (by assumption) ?_ ?_); · (first | omega | (simp; done) | (simp; omega))))))) (by simp; omega)).mono ?_; rintro e w2 ⟨rfl, hO2, hu2, hb2⟩
  have hz2 := hb2.size
  simp only [World.size_drew, World.size_alloc, World.size_setCell] at hz2
  have e0 : w2.cell? ⟨w.heap.size, 0, none⟩ = some (.slice (some ⟨gn, 0, none⟩) n cn) := hu2.cell (by simp [go_sem]) n1' n2' n3'
  have u0 : But3 w ((w.alloc (.cells #[.slice (some ⟨gn, 0, none⟩) n cn, .slice (some ⟨gh, 0, none⟩) k ch, .slice (some ⟨gt, 0, none⟩) k ct] 30)).alloc (.cells #[.int .i64 i, .int .i64 y1, .int .i64 y2] 63)) gn gh gt := ((But3.refl w gn gh gt).alloc _ (Nat.le_refl _)).alloc _ (by simp)
  have b0 : Below B w ((w.alloc (.cells #[.slice (some ⟨gn, 0, none⟩) n cn, .slice (some ⟨gh, 0, none⟩) k ch, .slice (some ⟨gt, 0, none⟩) k ct] 30)).alloc (.cells #[.int .i64 i, .int .i64 y1, .int .i64 y2] 63)) := ((Below.refl B w).alloc HB.out _).alloc (by simp; have := HB.out; omega) _
  have HU := Lib.hid (And.intro (u0.trans hu2 (by simp; omega)) (b0.trans hb2))
  have H2 := Lib.hid hO2
  clear u0 b0 hu2 hb2 hO2
  go_wp2
  go_region_with (go_at_call 45; refine (ca _).mono ?_; rintro e w3 ⟨rfl, hb3⟩; have hb3' : Below w2.heap.size w2 w3 := (by (repeat (first | (with_reducible exact Below.refl _ _) | ((with_reducible refine below_alloc ?_ ?_ _); · (first | omega | (simp; done) | (simp; omega))) | ((with_reducible refine below_setCell ?_ ?_ _); · (first | omega | (simp; done) | (simp; omega))) | (with_reducible refine Below.drew ?_) | (with_reducible refine below_drewN ?_ _) | ((with_reducible refine below_call (by assumption) ?_ ?_); · (first | omega | (simp; done) | (simp; omega)))))); have hO3 := H2.out.call hb3'; obtain ⟨d0, d1, d2⟩ := hO3.nod hx; have f3 := (fun j => hO3.nods.frozenAt j); have gz := hO3.lt.1.2; have e0' := (hb3'.cell (p := ⟨w.heap.size, 0, none⟩) (by show w.heap.size < _; omega)).trans e0; have HO3 := Lib.hid hO3; clear hO3)
  all_goals
    go_wp2
    go_end0
    rw [HP.out]
    refine ⟨rfl, HO3.out.setN hx (-1, -1, -1), ((((HU.out.1.trans (But3.below _ _ _ hb3') (by omega)).set _ (.inl rfl)).set _ (.inl rfl)).set _ (.inl rfl)), below_at (below_at (below_at (HU.out.2.trans (hb3'.mono (by omega))) _ ln1) _ ln1) _ ln1⟩
end Go.Proofs.Ytkcenadenmkgnaa
