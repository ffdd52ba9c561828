/- Layer 15, the document's: what is due, in cells; a new wheel; a number that is due no more. -/
import Derived.Test.YtcanaadcjipfjaaW15M
import Derived.Test.YtcanaadcjipfjaaKitRow
import Derived.Test.YtcanaadcjipfjaaKitE
import Derived.Deep.DeepCutAuto
namespace Go.Proofs.Ytcanaadcjipfjaa
open Go.RowKit
set_option linter.unusedVariables false
set_option linter.unusedSimpArgs false

def duC (e : Du) : List Value := [.int .i64 e.1, .int .i64 e.2]
theorem duC_len (e : Du) : (duC e).length = 2 := rfl
theorem duC_one (e : Du) : ∀ u ∈ duC e, u.oneCell' = true := by
  intro u hu
  simp [duC] at hu
  rcases hu with rfl | rfl <;> rfl
abbrev duZ : Value := .agg #[.int .i64 0, .int .i64 0]
theorem lays_rdu : LaysR 65 28 2 16 duZ := ⟨by kernel_rfl, Try.underlying28, rfl, by decide, by decide⟩
theorem lays_wdu : LaysR 62 40 2 16 duZ := ⟨by kernel_rfl, Try.underlying40, rfl, by decide, by decide⟩
/-- the cells of one that is due -/
def Du2 (w : World) (b o : Nat) (e : Du) : Prop := w.cell? ⟨b, o, none⟩ = some (.int .i64 e.1) ∧ w.cell? ⟨b, o + 1, none⟩ = some (.int .i64 e.2)
theorem Du2.far {W w1 : World} {b o : Nat} {e : Du} (h : Du2 W b o e) (hb : Below W.heap.size W w1) : Du2 w1 b o e := by
  have hl : b < W.heap.size := World.block_lt_of_cell? _ _ h.1
  exact ⟨(hb.cell (p := ⟨b, o, none⟩) hl).trans h.1, (hb.cell (p := ⟨b, o + 1, none⟩) hl).trans h.2⟩
theorem du2_of {w : World} {b o : Nat} {e : Du} (h : ∀ c u, (duC e)[c]? = some u → w.cell? ⟨b, o + c, none⟩ = some u) : Du2 w b o e := ⟨h 0 _ rfl, h 1 _ rfl⟩
theorem Du2.far' {W w1 : World} {n b o : Nat} {e : Du} (h : Du2 W b o e) (hb : Below n W w1) (hl : b < n) : Du2 w1 b o e :=
  ⟨(hb.cell (p := ⟨b, o, none⟩) hl).trans h.1, (hb.cell (p := ⟨b, o + 1, none⟩) hl).trans h.2⟩
/-- a wheel, as the document has it -/
abbrev whV (N now : Int) (v : Value) : Value := .agg #[.int .i64 N, .int .i64 now, v]
/-- block b holds a wheel -/
def Wh3 (w : World) (b : Nat) (N now : Int) (v : Value) : Prop := w.cell? ⟨b, 0, none⟩ = some (.int .i64 N) ∧ w.cell? ⟨b, 1, none⟩ = some (.int .i64 now) ∧ w.cell? ⟨b, 2, none⟩ = some v
theorem Wh3.lt {w : World} {b : Nat} {N now : Int} {v : Value} (h : Wh3 w b N now v) : b < w.heap.size := World.block_lt_of_cell? _ _ h.1
theorem Wh3.far {W w1 : World} {n b : Nat} {N now : Int} {v : Value} (h : Wh3 W b N now v) (hb : Below n W w1) (hn : b < n) : Wh3 w1 b N now v :=
  ⟨(hb.cell (p := ⟨b, 0, none⟩) hn).trans h.1, (hb.cell (p := ⟨b, 1, none⟩) hn).trans h.2.1, (hb.cell (p := ⟨b, 2, none⟩) hn).trans h.2.2⟩
theorem Wh3.call {W w1 : World} {b : Nat} {N now : Int} {v : Value} (h : Wh3 W b N now v) (hb : Below W.heap.size W w1) : Wh3 w1 b N now v := h.far hb h.lt
/-- .. and may be written -/
def Rw3 (w : World) (b : Nat) (N now : Int) (v : Value) : Prop := Wh3 w b N now v ∧ (w.frozen? ⟨b, 0, none⟩ = false ∧ w.frozen? ⟨b, 1, none⟩ = false ∧ w.frozen? ⟨b, 2, none⟩ = false)
theorem Rw3.far {W w1 : World} {n b : Nat} {N now : Int} {v : Value} (h : Rw3 W b N now v) (hb : Below n W w1) (hn : b < n) : Rw3 w1 b N now v :=
  ⟨h.1.far hb hn, (hb.frozen (p := ⟨b, 0, none⟩) hn).trans h.2.1, (hb.frozen (p := ⟨b, 1, none⟩) hn).trans h.2.2.1, (hb.frozen (p := ⟨b, 2, none⟩) hn).trans h.2.2.2⟩
theorem Rw3.call {W w1 : World} {b : Nat} {N now : Int} {v : Value} (h : Rw3 W b N now v) (hb : Below W.heap.size W w1) : Rw3 w1 b N now v := h.far hb h.1.lt
theorem fil_next {α : Type} {f : α → Bool} {l : List α} {k : Nat} (h : k < l.length) : (l.take (k + 1)).filter f = (l.take k).filter f ++ (if f l[k] = true then [l[k]] else []) := by
  rw [List.take_succ_eq_append_getElem h, List.filter_append]
  by_cases hf : f l[k] = true
  · rw [if_pos hf, List.filter_cons_of_pos hf, List.filter_nil]
  · rw [if_neg hf, List.filter_cons_of_neg hf, List.filter_nil]
theorem fil_len {α : Type} (f : α → Bool) (l : List α) (k : Nat) : ((l.take k).filter f).length ≤ l.length := Nat.le_trans (List.length_filter_le _ _) (by rw [List.length_take]; omega)
theorem isR_none {α : Type} {z : Nat} {cs : α → List Value} (w : World) (p : Addr) (cap : Nat) : IsR z cs w (.slice (some p) 0 cap) ([] : List α) := ⟨some p, cap, rfl, (fun h => by cases h), fun j hj => by cases hj⟩
theorem isR_sub {α : Type} {z : Nat} {cs : α → List Value} {w : World} {l : List α} {b off : Nat} (h : ∀ j (hj : j < l.length) c u, (cs l[j])[c]? = some u → w.cell? ⟨b, off + j * z + c, none⟩ = some u) {i n cap o : Nat} (hin : i + n ≤ l.length) (ho : o = off + i * z) :
    IsR z cs w (.slice (some ⟨b, o, none⟩) n cap) ((l.drop i).take n) := by
  subst ho
  have e : ((l.drop i).take n).length = n := by rw [List.length_take, List.length_drop]; omega
  refine ⟨some ⟨b, off + i * z, none⟩, cap, by rw [e], (fun h => by cases h), fun j hj => ⟨b, off + i * z, rfl, fun c u hu => ?_⟩⟩
  rw [List.getElem_take, List.getElem_drop] at hu
  have := h (i + j) (by omega) c u hu
  rw [Nat.add_mul] at this
  rw [← Nat.add_assoc] at this
  exact this

theorem refnew_no (n : Int) (w : World) (h : n < 1 ∨ 32 < n) : Calls Try.prog 9 #[.int .i64 n] w fun e w' => e = .returned (.tuple #[whV 0 0 (.slice none 0 0), .int .i64 8]) ∧ Below w.heap.size w w' := by
  simp only [whV]
  by_cases h1 : n < 1
  · clear h
    go_enter Try.func9, Try.ntmps9
    go_wp2
    refine bodyPost_ret (v := .tuple #[.agg #[.int .i64 0, .int .i64 0, .slice none 0 0], .int .i64 8]) (by simp [results, Try.results9, go_sem]) rfl ⟨rfl, ?_⟩
    (repeat (first | (with_reducible exact Below.refl _ _) | ((with_reducible refine below_alloc ?_ ?_ _); · (first | omega | (simp; done) | (simp; omega))) | ((with_reducible refine below_setCell ?_ ?_ _); · (first | omega | (simp; done) | (simp; omega))) | (with_reducible refine Below.drew ?_) | (with_reducible refine below_drewN ?_ _) | ((with_reducible refine below_call (by assumption) ?_ ?_); · (first | omega | (simp; done) | (simp; omega)))))
  · have h2 : 32 < n := by omega
    clear h
    go_enter Try.func9, Try.ntmps9
    go_wp2
    refine bodyPost_ret (v := .tuple #[.agg #[.int .i64 0, .int .i64 0, .slice none 0 0], .int .i64 8]) (by simp [results, Try.results9, go_sem]) rfl ⟨rfl, ?_⟩
    (repeat (first | (with_reducible exact Below.refl _ _) | ((with_reducible refine below_alloc ?_ ?_ _); · (first | omega | (simp; done) | (simp; omega))) | ((with_reducible refine below_setCell ?_ ?_ _); · (first | omega | (simp; done) | (simp; omega))) | (with_reducible refine Below.drew ?_) | (with_reducible refine below_drewN ?_ _) | ((with_reducible refine below_call (by assumption) ?_ ?_); · (first | omega | (simp; done) | (simp; omega)))))
theorem refnew_yes (n : Int) (w : World) (h1 : 1 ≤ n) (h2 : n ≤ 32) : Calls Try.prog 9 #[.int .i64 n] w fun e w' => e = .returned (.tuple #[whV n 0 (.slice none 0 0), .int .i64 0]) ∧ Below w.heap.size w w' := by
  simp only [whV]
  go_enter Try.func9, Try.ntmps9
  go_wp2
  refine bodyPost_ret (v := .tuple #[.agg #[.int .i64 n, .int .i64 0, .slice none 0 0], .int .i64 0]) (by simp [results, Try.results9, go_sem]) rfl ⟨rfl, ?_⟩
  (repeat (first | (with_reducible exact Below.refl _ _) | ((with_reducible refine below_alloc ?_ ?_ _); · (first | omega | (simp; done) | (simp; omega))) | ((with_reducible refine below_setCell ?_ ?_ _); · (first | omega | (simp; done) | (simp; omega))) | (with_reducible refine Below.drew ?_) | (with_reducible refine below_drewN ?_ _) | ((with_reducible refine below_call (by assumption) ?_ ?_); · (first | omega | (simp; done) | (simp; omega)))))
set_option maxRecDepth 100000 in
set_option maxHeartbeats 4000000 in
theorem refstop_any (N now id : Int) (v : Value) (L : List Du) (w : World) (hv : IsR 2 duC w v L) (hl : L.length ≤ 1000000) :
    Calls Try.prog 11 #[whV N now v, .int .i64 id] w fun e w' => ∃ v', e = .returned (.tuple #[whV N now v', .bool (decide ((delW L id).length < L.length))]) ∧ OwnR 65 2 duC w' w.heap.size v' (delW L id) ∧ Below w.heap.size w w' := by
  have HV := Lib.hid hv
  obtain ⟨p, cap, rfl, -, hp⟩ := hv
  have HP := Lib.hid hp
  clear hp
  have X0 : Hid (∀ t t', Rw3 ((w.alloc (.cells #[.int .i64 N, .int .i64 now, .slice p L.length cap] t)).alloc (.cells #[.int .i64 0, .int .i64 0, .slice none 0 0] t')) w.heap.size N now (.slice p L.length cap) ∧ Rw3 ((w.alloc (.cells #[.int .i64 N, .int .i64 now, .slice p L.length cap] t)).alloc (.cells #[.int .i64 0, .int .i64 0, .slice none 0 0] t')) (w.heap.size + 1) 0 0 (.slice none 0 0)) := Lib.hid (fun t t' => by simp [Rw3, Wh3, go_sem])
  simp only [whV] at *
  go_enter Try.func11, Try.ntmps11
  go_upto_region 1 with fail
  refine gen_world (F := fun W => (Rw3 W w.heap.size N now (.slice p L.length cap) ∧ Rw3 W (w.heap.size + 1) 0 0 (.slice none 0 0)) ∧ Below w.heap.size w W ∧ w.heap.size + 2 ≤ W.heap.size) ⟨X0.out _ _, by (repeat (first | (with_reducible exact Below.refl _ _) | ((with_reducible refine below_alloc ?_ ?_ _); · (first | omega | (simp; done) | (simp; omega))) | ((with_reducible refine below_setCell ?_ ?_ _); · (first | omega | (simp; done) | (simp; omega))) | (with_reducible refine Below.drew ?_) | (with_reducible refine below_drewN ?_ _) | ((with_reducible refine below_call (by assumption) ?_ ?_); · (first | omega | (simp; done) | (simp; omega))))), by simp⟩ (fun wt hF => ?_)
  obtain ⟨⟨X, Z⟩, hB0, hz⟩ := hF
  clear X0
  go_wp2
  go_loopw [6, 7] (fun o i wr => ∃ k : Nat, i = .int .i64 k ∧ k ≤ L.length ∧ OwnR 65 2 duC wr (w.heap.size + 2) o ((L.take k).filter fun e => decide (e.1 ≠ id)) ∧ Rw3 wr w.heap.size N now (.slice p L.length cap) ∧ Rw3 wr (w.heap.size + 1) 0 0 (.slice none 0 0) ∧ Below w.heap.size w wr ∧ w.heap.size + 2 ≤ wr.heap.size) (fun _ i _ => L.length - (intOf i).toNat)
  case atStart => exact ⟨0, rfl, Nat.zero_le _, OwnR.nil _ _ _ _ _, X, Z, hB0, hz⟩
  case round =>
    clear X Z hB0 hz
    obtain ⟨k, rfl, hk, ho, hX, hZ, hB, hz⟩ := hrel
    have HO := Lib.hid ho
    have HX := Lib.hid (And.intro hX hZ)
    clear ho
    obtain ⟨⟨x0, x1, x2⟩, f0, f1, f2⟩ := hX
    by_cases hlt : k < L.length
    · have hlt' : (k : Int) < L.length := by omega
      obtain ⟨b, off, rfl, g⟩ := HP.out k hlt
      have hbl : b < w.heap.size := World.block_lt_of_cell? _ _ (du2_of g).1
      have g3 := (du2_of g).far hB
      have HN := Lib.hid (fil_next (f := fun e : Du => decide (e.1 ≠ id)) hlt)
      have hfl := fil_len (fun e : Du => decide (e.1 ≠ id)) L k
      generalize L[k] = e at g3 HN
      obtain ⟨s, T⟩ := e
      simp only at HN
      obtain ⟨g0, g1⟩ := g3
      simp only at g0 g1
      clear g hZ
      by_cases hs : s = id
      · have hs' : (s == id) = true := by simp [hs]
        rw [if_neg (by simp [hs]), List.append_nil] at HN
        clear hs
        go_wp2
        go_roundw
        case rel => exact ⟨k + 1, by go_num, by omega, by rw [HN.out]; exact HO.out, HX.out.1, HX.out.2, hB, hz⟩
        case measure => simp [intOf]; omega
      · have hs' : (s == id) = false := by simp [hs]
        rw [if_pos (by simp [hs])] at HN
        clear hs
        go_wp2_with (at_builtin; refine app_row lays_rdu duC_len duC_one rfl _ _ rfl (w.heap.size + 2) _ [((s, T) : Du)] _ _ rfl (HO.out.alloc _) rfl (isR_one wr _ _ 1 rfl rfl) (by show _ + 1 ≤ _; omega) (by simp; omega) ?_; intro v5 w5 ho5 hb5 _ _)
        have hb5' : Below (w.heap.size + 2) wr w5 := (below_alloc hz (Below.refl _ _) _).trans hb5
        go_roundw
        case rel =>
          exact ⟨k + 1, by go_num, by omega, by rw [HN.out]; exact ho5, HX.out.1.far hb5' (by omega), HX.out.2.far hb5' (by omega), hB.trans (hb5'.mono (by omega)), Nat.le_trans hz hb5'.size⟩
        case measure => simp [intOf]; omega
    · obtain rfl : k = L.length := by omega
      have hO := HO.out
      rw [List.take_length] at hO
      have HOf : Hid (OwnR 65 2 duC wr (w.heap.size + 2) u6 (delW L id)) := Lib.hid hO
      obtain ⟨p6, c6, h6⟩ := hO.form
      rw [show (L.filter fun e => decide (e.1 ≠ id)) = delW L id from rfl] at h6
      subst h6
      have hne : w.heap.size ≠ w.heap.size + 1 := by omega
      obtain ⟨⟨z0, z1, z2⟩, j0, j1, j2⟩ := hZ
      clear hO
      go_wp2
      refine bodyPost_ret (v := .tuple #[.agg #[.int .i64 N, .int .i64 now, .slice p6 (delW L id).length c6], .bool (decide ((delW L id).length < L.length))]) (by simp [results, Try.results11, go_sem, z0, z1, z2]) rfl ⟨_, rfl, ?_, ?_⟩
      · exact ((((HOf.out.set (p := ⟨w.heap.size, 2, none⟩) (by show w.heap.size < _; omega) _).set (p := ⟨w.heap.size + 1, 0, none⟩) (by show w.heap.size + 1 < _; omega) _).set (p := ⟨w.heap.size + 1, 1, none⟩) (by show w.heap.size + 1 < _; omega) _).set (p := ⟨w.heap.size + 1, 2, none⟩) (by show w.heap.size + 1 < _; omega) _).mono (by omega)
      · (repeat (first | (with_reducible exact Below.refl _ _) | ((with_reducible refine below_alloc ?_ ?_ _); · (first | omega | (simp; done) | (simp; omega))) | ((with_reducible refine below_setCell ?_ ?_ _); · (first | omega | (simp; done) | (simp; omega))) | (with_reducible refine Below.drew ?_) | (with_reducible refine below_drewN ?_ _) | ((with_reducible refine below_call (by assumption) ?_ ?_); · (first | omega | (simp; done) | (simp; omega)))))
end Go.Proofs.Ytcanaadcjipfjaa
