/- Contracts of layer 3, the program's: free places taken off, and put on. -/
import Derived.Test.YtmnlpmfkoammhaaP4C
namespace Go.Proofs.Ytmnlpmfkoammhaa
open Go.RowKit
set_option linter.unusedVariables false
set_option linter.unusedSimpArgs false

/-- v is a slice that reads as these numbers, all of it from block B on -/
def NewI (w : World) (B : Nat) (v : Value) (l : List Int) : Prop :=
  ∃ g cap, v = .slice (some ⟨g, 0, none⟩) l.length cap ∧ B ≤ g ∧ l.length ≤ cap ∧ ∀ j (h : j < l.length), w.cell? ⟨g, j, none⟩ = some (.int .i64 l[j])
theorem NewI.reads {w : World} {B : Nat} {v : Value} {l : List Int} (h : NewI w B v l) : IsI w v l := by
  obtain ⟨g, cap, rfl, hB, hc, h⟩ := h
  exact ⟨_, cap, rfl, fun j hj => ⟨g, 0, rfl, by rw [Nat.zero_add]; exact h j hj⟩⟩
theorem NewI.capOk {w : World} {B : Nat} {v : Value} {l : List Int} (h : NewI w B v l) : CapOk v := by
  obtain ⟨g, cap, rfl, hB, hc, h⟩ := h
  exact ⟨_, _, _, rfl, hc, (fun h => by cases h), (fun a h => by cases h; exact ⟨_, _, rfl⟩)⟩
theorem NewI.below {w : World} {B : Nat} {v : Value} {l : List Int} (h : NewI w B v l) (a : Addr) (u : Value) (hb : a.block < B) : NewI (w.setCell a u) B v l := by
  obtain ⟨g, cap, rfl, hB, hc, h⟩ := h
  exact ⟨g, cap, rfl, hB, hc, fun j hj => by rw [World.cell?_setCell_other _ _ _ _ (fun e => by rw [e] at hb; exact absurd hb (by show ¬ g < B; omega))]; exact h j hj⟩
theorem NewI.call {W w1 : World} {B : Nat} {v : Value} {l : List Int} (h : NewI W B v l) (hb : Below W.heap.size W w1) : NewI w1 B v l := by
  obtain ⟨g, cap, rfl, hB, hc, h⟩ := h
  exact ⟨g, cap, rfl, hB, hc, fun j hj => (hb.cell (p := ⟨g, j, none⟩) (World.block_lt_of_cell? _ _ (h j hj))).trans (h j hj)⟩
theorem NewI.alloc {w : World} {B : Nat} {v : Value} {l : List Int} (h : NewI w B v l) (o : Obj) : NewI (w.alloc o) B v l := h.call ((Below.refl _ _).alloc (Nat.le_refl _) o)
theorem NewI.mono {w : World} {B B' : Nat} {v : Value} {l : List Int} (h : NewI w B v l) (hB : B' ≤ B) : NewI w B' v l := by
  obtain ⟨g, cap, rfl, hB2, hc, h⟩ := h
  exact ⟨g, cap, rfl, Nat.le_trans hB hB2, hc, h⟩
theorem own_open {w : World} {B : Nat} {v : Value} {l : List Int} (h : OwnI w B v l) (h0 : 0 < l.length) : ∃ g cap, v = .slice (some ⟨g, 0, none⟩) l.length cap ∧ B ≤ g ∧ l.length ≤ cap ∧ (∀ j (h : j < l.length), w.cell? ⟨g, j, none⟩ = some (.int .i64 l[j])) ∧ g < w.heap.size := by
  have h' : w.ownsRow B 3 1 v l.length (l.map (Value.int .i64)) := h
  rcases h.2 with ⟨hv, hn⟩ | ⟨g, cap, cur, hv, hB, hg, r⟩
  · omega
  · subst hv
    refine ⟨g, cap, rfl, hB, r.1, fun j hj => ?_, (Array.getElem?_eq_some_iff.1 hg).1⟩
    rw [h'.cellAt j (by omega)]
    simp [hj]
theorem OwnI.new {w : World} {B : Nat} {v : Value} {l : List Int} (h : OwnI w B v l) (h0 : 0 < l.length) : NewI w B v l := by
  obtain ⟨g, cap, hv, hB, hc, hr, -⟩ := own_open h h0
  exact ⟨g, cap, hv, hB, hc, hr⟩

set_option maxRecDepth 100000 in
set_option maxHeartbeats 1000000 in
theorem takenoff_any (v : Value) (l : List Int) (m k : Nat) (w : World) (hv : IsI w v l) (hcap : CapOk v) (hm : l.length = m + 1) (hk : l[m]'(by omega) = (k : Int)) (hl : l.length ≤ 1048576) :
    Calls Try.prog 30 #[v] w fun e w' => ∃ v', e = .returned (.tuple #[v', .int .i64 k]) ∧ NewI w' w.heap.size v' (l.take m) ∧ Below w.heap.size w w' := by
  have HM := Lib.hid hm
  have HK : Hid (l[m]? = some (k : Int)) := Lib.hid (by rw [List.getElem?_eq_getElem (by omega), hk])
  have hm1 : (l.length : Int) - 1 = m := by omega
  have hm2 : (m : Int) < l.length := by omega
  have hm3 : (m : Int) ≤ 1048576 := by omega
  have hm0 : (0 : Int) ≤ m := by omega
  clear hk hm
  go_enter Try.func30, Try.ntmps30
  go_wp2_with (go_at_call 35; refine (clonei_any _ l _ hv hcap hl).mono ?_; rintro e w2 ⟨v', rfl, hown, hb2⟩; obtain ⟨g, cap', rfl, hgB, hcl, hrow, hgz⟩ := own_open hown (by omega); have c0 := (hrow m (by have := HM.out; omega)); rw [(List.getElem?_eq_some_iff.1 HK.out).2] at c0; have HR := Lib.hid hrow; clear hown hrow)
  go_quiet (fail)
  go_wp2
  go_ret2
  have hml : (l.take m).length = m := by have := HM.out; rw [List.length_take]; omega
  have hbq : Below w.heap.size w (w2.drewN nq) := by (repeat (first | (with_reducible exact Below.refl _ _) | ((with_reducible refine below_alloc ?_ ?_ _); · (first | omega | (simp; done) | (simp; omega))) | ((with_reducible refine below_setCell ?_ ?_ _); · (first | omega | (simp; done) | (simp; omega))) | (with_reducible refine Below.drew ?_) | (with_reducible refine below_drewN ?_ _) | ((with_reducible refine below_call (by assumption) ?_ ?_); · (first | omega | (simp; done) | (simp; omega)))))
  refine ⟨_, rfl, ⟨g, m, by rw [hml]; rfl, hgB, by omega, fun j hj => ?_⟩, hbq⟩
  have hj' : j < m := by omega
  have := HM.out
  rw [List.getElem_take]
  have h := HR.out j (by omega)
  simpa using h

set_option maxRecDepth 100000 in
set_option maxHeartbeats 1000000 in
theorem puton_any (v : Value) (l : List Int) (k : Nat) (w : World) (hv : IsI w v l) (hcap : CapOk v) (hl : l.length ≤ 1048576) :
    Calls Try.prog 37 #[v, .int .i64 k] w fun e w' => ∃ v', e = .returned v' ∧ OwnI w' w.heap.size v' (l ++ [(k : Int)]) ∧ Below w.heap.size w w' := by
  obtain ⟨i0, hi, hj0, hj1, hj2⟩ := info_parts info_int
  have Hv := Lib.hid hv
  obtain ⟨p, cap, rfl, hp⟩ := hv
  obtain ⟨p', n', c', e, hc, hz, ha⟩ := hcap
  simp only [Value.slice.injEq] at e
  obtain ⟨rfl, rfl, rfl⟩ := e
  have hc' : (l.length : Int) ≤ cap := by omega
  have hl' : (l.length : Int) ≤ 1048576 := by omega
  have HZ := Lib.hid (And.intro hz ha)
  clear hp hz ha
  go_enter Try.func37, Try.ntmps37
  go_wp2_with (at_builtin; refine wpList_append_grows _ rfl _ _ 23 rfl 3 i0 (.int .i64 0) 1 8 Try.underlying23 hi hj0 hj1 hj2 rfl (by decide) p l.length l.length (l.map (Value.int .i64)) rfl (fun e => ⟨(HZ.out.1 e).1, (HZ.out.1 e).1⟩) (by simp) (fun b e j u hu => by obtain ⟨b', o', rfl⟩ := HZ.out.2 b e; subst e; rw [Addr.add_lit]; exact rdI1 (Hv.out.call (by (repeat (first | (with_reducible exact Below.refl _ _) | ((with_reducible refine below_alloc ?_ ?_ _); · (first | omega | (simp; done) | (simp; omega))) | ((with_reducible refine below_setCell ?_ ?_ _); · (first | omega | (simp; done) | (simp; omega))) | (with_reducible refine Below.drew ?_) | (with_reducible refine below_drewN ?_ _) | ((with_reducible refine below_call (by assumption) ?_ ?_); · (first | omega | (simp; done) | (simp; omega))))))) j u hu) ⟨w.heap.size, 0, none⟩ 1 1 [Value.int .i64 k] rfl rfl (cell_one_new _ _ _) (by simp [Value.oneCell']) (by omega) (by unfold maxLen; omega) (by omega) ?_; intro v' w3 hown' hgr; have hb3 : Below w.heap.size w w3 := ((Below.refl _ _).alloc (Nat.le_refl _) _).grown hgr (by simp) (fun q hq => by cases hq); have hown3 : OwnI w3 w.heap.size v' (l ++ [(k : Int)]) := (by refine OwnI.mono (B := w.heap.size + 1) ?_ (by omega); show World.ownsRow _ _ _ _ _ _ _; rw [List.length_append, List.map_append]; rw [World.size_alloc] at hown'; exact hown'); clear hown' hgr)
  go_ret
  exact ⟨_, rfl, hown3, hb3⟩
end Go.Proofs.Ytmnlpmfkoammhaa
