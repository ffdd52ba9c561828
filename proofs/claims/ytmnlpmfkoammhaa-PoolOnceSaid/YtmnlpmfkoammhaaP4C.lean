/- Contracts of layer 3, the program's: copies of slices; another cell at a place; free places taken off and put on. -/
import Derived.Test.YtmnlpmfkoammhaaP3E
import Derived.Test.YtmnlpmfkoammhaaP3M
import Derived.Test.YtmnlpmfkoammhaaP3H
import Derived.ArgAppend
import Derived.Lib.LazyBuf
namespace Go.Proofs.Ytmnlpmfkoammhaa
open Go.RowKit
set_option linter.unusedVariables false
set_option linter.unusedSimpArgs false

theorem rdI1 {w : World} {b off cap : Nat} {l : List Int} (h : IsI w (.slice (some ⟨b, off, none⟩) l.length cap) l) (j : Nat) (u : Value) (hu : (l.map (Value.int .i64))[j]? = some u) : w.cell? ⟨b, off + j, none⟩ = some u :=
  rdI (m := l.length) h j u (by rw [List.take_length]; exact hu)

set_option maxRecDepth 100000 in
set_option maxHeartbeats 1000000 in
theorem clonei_any (v : Value) (l : List Int) (w : World) (hv : IsI w v l) (hcap : CapOk v) (hl : l.length ≤ 1048576) :
    Calls Try.prog 35 #[v] w fun e w' => ∃ v', e = .returned v' ∧ OwnI w' w.heap.size v' l ∧ Below w.heap.size w w' := by
  obtain ⟨i0, hi, hj0, hj1, hj2⟩ := info_parts info_int
  have Hv := Lib.hid hv
  obtain ⟨p, cap, rfl, hp⟩ := hv
  obtain ⟨p', n', c', e, hc, hz, ha⟩ := hcap
  simp only [Value.slice.injEq] at e
  obtain ⟨rfl, rfl, rfl⟩ := e
  have hnil : ∀ W : World, (binOp .eql 23 (.slice p l.length cap) (.slice none 0 0)).run Try.prog W = .ok (.bool p.isNone) W := fun W => run_eql_slice_nil W _ _ _ _ _ Try.underlying23
  cases p with
  | none =>
    obtain ⟨hn, rfl⟩ := hz rfl
    obtain rfl := List.eq_nil_of_length_eq_zero hn
    clear hp Hv
    simp only [List.length_nil, Option.isNone_none] at hnil
    go_enter Try.func35, Try.ntmps35
    go_wp2
    go_ret
    exact ⟨_, rfl, OwnI.nil _ _, by (repeat (first | (with_reducible exact Below.refl _ _) | ((with_reducible refine below_alloc ?_ ?_ _); · (first | omega | (simp; done) | (simp; omega))) | ((with_reducible refine below_setCell ?_ ?_ _); · (first | omega | (simp; done) | (simp; omega))) | (with_reducible refine Below.drew ?_) | (with_reducible refine below_drewN ?_ _) | ((with_reducible refine below_call (by assumption) ?_ ?_); · (first | omega | (simp; done) | (simp; omega)))))⟩
  | some ad =>
    obtain ⟨b, off, rfl⟩ := ha _ rfl
    clear hp hz ha
    go_enter Try.func35, Try.ntmps35
    go_wp2_with (at_builtin; refine wpList_append_own _ rfl _ _ 23 rfl w.heap.size 3 i0 (.int .i64 0) 1 8 Try.underlying23 hi hj0 hj1 hj2 rfl (by decide) _ 0 [] rfl (World.ownsRow_lit w #[] 0 (Nat.le_refl _) (by decide) rfl) ⟨b, off, none⟩ l.length cap (l.map (Value.int .i64)) rfl (by simp) (fun j u hu => by rw [Addr.add_lit]; exact rdI1 (Hv.out.call (by (repeat (first | (with_reducible exact Below.refl _ _) | ((with_reducible refine below_alloc ?_ ?_ _); · (first | omega | (simp; done) | (simp; omega))) | ((with_reducible refine below_setCell ?_ ?_ _); · (first | omega | (simp; done) | (simp; omega))) | (with_reducible refine Below.drew ?_) | (with_reducible refine below_drewN ?_ _) | ((with_reducible refine below_call (by assumption) ?_ ?_); · (first | omega | (simp; done) | (simp; omega))))))) j u hu) (by intro u hu; obtain ⟨_, _, rfl⟩ := List.mem_map.1 hu; rfl) (by unfold maxLen; omega) (by omega) (by simp) ?_; intro v' w3 hown' hgr _; have hb3 : Below w.heap.size w w3 := ((Below.refl _ _).alloc (Nat.le_refl _) _).grown hgr (by simp) (fun q hq => by cases hq; exact Nat.le_refl _); have hown3 : w3.ownsRow w.heap.size 3 1 v' l.length (l.map (Value.int .i64)) := (by simpa only [Nat.zero_add, List.nil_append] using hown'); clear hown' hgr)
    go_ret
    exact ⟨_, rfl, hown3, hb3⟩

set_option maxRecDepth 100000 in
set_option maxHeartbeats 1000000 in
theorem clonec_any (v : Value) (l : List Cel) (w : World) (hv : IsC w v l) (hne : 0 < l.length) (hl : l.length ≤ 1048576) :
    Calls Try.prog 46 #[v] w fun e w' => ∃ g cap, e = .returned (.slice (some ⟨g, 0, none⟩) l.length cap) ∧ w'.ownsRow w.heap.size 63 3 (.slice (some ⟨g, 0, none⟩) l.length cap) l.length (celF l) ∧ Below w.heap.size w w' := by
  obtain ⟨i0, hi, hj0, hj1, hj2⟩ := info_parts info_celP
  have Hv := Lib.hid hv
  obtain ⟨p, cap, rfl, hp⟩ := hv
  have hnil : ∀ W : World, (binOp .eql 28 (.slice p l.length cap) (.slice none 0 0)).run Try.prog W = .ok (.bool p.isNone) W := fun W => run_eql_slice_nil W _ _ _ _ _ Try.underlying28
  obtain ⟨b, off, rfl, -⟩ := hp 0 hne
  clear hp
  go_enter Try.func46, Try.ntmps46
  go_wp2_with (at_builtin; refine wpList_append_own _ rfl _ _ 28 rfl w.heap.size 63 i0 (.agg #[.int .i64 0, .bool false, .int .i64 0]) 3 24 Try.underlying28 hi hj0 hj1 hj2 rfl (by decide) _ 0 [] rfl (World.ownsRow_lit w #[] 0 (Nat.le_refl _) (by decide) rfl) ⟨b, off, none⟩ l.length cap (celF l) rfl (celF_len l) (fun j u hu => by rw [Addr.add_lit]; exact IsC.flat (Hv.out.call (by (repeat (first | (with_reducible exact Below.refl _ _) | ((with_reducible refine below_alloc ?_ ?_ _); · (first | omega | (simp; done) | (simp; omega))) | ((with_reducible refine below_setCell ?_ ?_ _); · (first | omega | (simp; done) | (simp; omega))) | (with_reducible refine Below.drew ?_) | (with_reducible refine below_drewN ?_ _) | ((with_reducible refine below_call (by assumption) ?_ ?_); · (first | omega | (simp; done) | (simp; omega))))))) j u hu) (celF_one l) (by unfold maxLen; omega) (by omega) (by simp) ?_; intro v' w3 hown' hgr _; have hb3 : Below w.heap.size w w3 := ((Below.refl _ _).alloc (Nat.le_refl _) _).grown hgr (by simp) (fun q hq => by cases hq; exact Nat.le_refl _); have hown3 : w3.ownsRow w.heap.size 63 3 v' l.length (celF l) := (by simpa only [Nat.zero_add, List.nil_append] using hown'); clear hown' hgr)
  go_ret
  rcases hown3.2 with ⟨hv, hn⟩ | ⟨g, cap', cur, hv, hBg, hg, hr⟩
  · omega
  subst hv
  exact ⟨g, cap', rfl, hown3, hb3⟩

set_option maxRecDepth 100000 in
set_option maxHeartbeats 1000000 in
theorem with_any (vc : Value) (l : List Cel) (k : Nat) (c : Cel) (w : World) (hv : IsC w vc l) (hk : k < l.length) (hl : l.length ≤ 1024) :
    Calls Try.prog 31 #[vc, .int .i64 k, celV c] w fun e w' => ∃ vc', e = .returned vc' ∧ OwnC 63 w' w.heap.size vc' (l.set k c) ∧ Below w.heap.size w w' := by
  have Hv := Lib.hid hv
  obtain ⟨p, cap, rfl, hp⟩ := hv
  clear hp
  have hkl : (k : Int) < l.length := by omega
  go_enter Try.func31, Try.ntmps31
  go_wp2_with (go_at_call 46; refine (clonec_any _ l _ (by exact Hv.out.call (by (repeat (first | (with_reducible exact Below.refl _ _) | ((with_reducible refine below_alloc ?_ ?_ _); · (first | omega | (simp; done) | (simp; omega))) | ((with_reducible refine below_setCell ?_ ?_ _); · (first | omega | (simp; done) | (simp; omega))) | (with_reducible refine Below.drew ?_) | (with_reducible refine below_drewN ?_ _) | ((with_reducible refine below_call (by assumption) ?_ ?_); · (first | omega | (simp; done) | (simp; omega))))))) (by omega) (by omega)).mono ?_; rintro e w2 ⟨g, cap', rfl, hown, hb2⟩; obtain ⟨hk2, hf2, hz2⟩ := bcellN (n := w.heap.size + 1) (by (try simp only [World.size_drew, World.size_alloc, World.size_setCell]); omega) hb2; have hz2_0 : w.heap.size < w2.heap.size := (by omega); simp only [World.size_alloc] at hown; have hgB : w.heap.size + 1 ≤ g := (by rcases hown.2 with ⟨hv, hn⟩ | ⟨g', cap2, cur, hv, hBg, hg, hr⟩; (exact absurd hv (by simp)); (cases hv; exact hBg)); have hne0 : g ≠ w.heap.size := (by omega); have hne0' := hne0.symm; have h0 := (hown.cellAt (k * 3) (by omega)).trans (celF_get l k hk).1; have h1 := (hown.cellAt (k * 3 + 1) (by omega)).trans (celF_get l k hk).2.1; have h2 := (hown.cellAt (k * 3 + 2) (by omega)).trans (celF_get l k hk).2.2; have fg : (∀ j, w2.frozen? ⟨g, j, none⟩ = false) := (by rcases hown.2 with ⟨hv, hn⟩ | ⟨g', cap2, cur, hv, hBg, hg, hr⟩; (exact absurd hv (by simp)); (cases hv; exact Lib.frozen_of_heap hg)); have hgz : g < w2.heap.size := World.block_lt_of_cell? _ _ h0; have HO := Lib.hid hown; clear hown)
  go_ret
  refine ⟨_, rfl, ?_, ?_⟩
  · have s1 := (HO.out.stored (k * 3) (.int .i64 c.1)).1
    have s2 := (s1.stored (k * 3 + 1) (.bool c.2.1)).1
    have s3 := (s2.stored (k * 3 + 2) (.int .i64 c.2.2)).1
    rw [celF_set l c k hk] at s3
    have el : l.length = (l.set k c).length := by simp
    refine OwnC.mono (B := w.heap.size + 1) ?_ (by omega)
    show World.ownsRow _ _ _ _ _ _ _
    rw [← el]
    exact s3
  · (repeat (first | (with_reducible exact Below.refl _ _) | ((with_reducible refine below_alloc ?_ ?_ _); · (first | omega | (simp; done) | (simp; omega))) | ((with_reducible refine below_setCell ?_ ?_ _); · (first | omega | (simp; done) | (simp; omega))) | (with_reducible refine Below.drew ?_) | (with_reducible refine below_drewN ?_ _) | ((with_reducible refine below_call (by assumption) ?_ ?_); · (first | omega | (simp; done) | (simp; omega)))))
end Go.Proofs.Ytmnlpmfkoammhaa
