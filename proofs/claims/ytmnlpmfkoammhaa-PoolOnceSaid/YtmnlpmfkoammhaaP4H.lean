/- Contracts of layer 3, the program's: whether a state may be; where a handle leads. -/
import Derived.Test.YtmnlpmfkoammhaaP4F
import Derived.Test.YtmnlpmfkoammhaaP3N
namespace Go.Proofs.Ytmnlpmfkoammhaa
open Go.RowKit
set_option linter.unusedVariables false
set_option linter.unusedSimpArgs false

set_option maxRecDepth 100000 in
set_option maxHeartbeats 4000000 in
theorem check_any (vc vf : Value) (st : St) (w : World) (hv : IsSt w vc vf st) (hl : st.1.length ≤ 1048576) (hf : st.2.length ≤ 1048576) :
    Calls Try.prog 22 #[.agg #[vc, vf]] w fun e w' => e = .returned (.int .i64 (chkN st)) ∧ Below w.heap.size w w' := by
  obtain ⟨l, fr⟩ := st
  replace hl : l.length ≤ 1048576 := hl
  replace hf : fr.length ≤ 1048576 := hf
  have hv0 := hv
  obtain ⟨⟨pc, cc, rfl, hp⟩, ⟨pf, cf, rfl, hq⟩⟩ := hv
  have Hv := Lib.hid hv0
  clear hp hq hv0
  by_cases h1 : l.length < 1
  · have h1' : (l.length : Int) < 1 := by omega
    have HN : Hid (chkN (l, fr) = 5) := Lib.hid (by unfold chkN; rw [if_pos (.inl h1)])
    clear h1
    go_enter Try.func22, Try.ntmps22
    go_wp2
    go_ret
    exact ⟨ret_int HN.out.symm, by (repeat (first | (with_reducible exact Below.refl _ _) | ((with_reducible refine below_alloc ?_ ?_ _); · (first | omega | (simp; done) | (simp; omega))) | ((with_reducible refine below_setCell ?_ ?_ _); · (first | omega | (simp; done) | (simp; omega))) | (with_reducible refine Below.drew ?_) | (with_reducible refine below_drewN ?_ _) | ((with_reducible refine below_call (by assumption) ?_ ?_); · (first | omega | (simp; done) | (simp; omega)))))⟩
  · by_cases h2 : 64 < l.length
    · have h1' : (1 : Int) ≤ l.length := by omega
      have h2' : (64 : Int) < l.length := by omega
      have HN : Hid (chkN (l, fr) = 5) := Lib.hid (by unfold chkN; rw [if_pos (.inr h2)])
      clear h1 h2
      go_enter Try.func22, Try.ntmps22
      go_wp2
      go_ret
      exact ⟨ret_int HN.out.symm, by (repeat (first | (with_reducible exact Below.refl _ _) | ((with_reducible refine below_alloc ?_ ?_ _); · (first | omega | (simp; done) | (simp; omega))) | ((with_reducible refine below_setCell ?_ ?_ _); · (first | omega | (simp; done) | (simp; omega))) | (with_reducible refine Below.drew ?_) | (with_reducible refine below_drewN ?_ _) | ((with_reducible refine below_call (by assumption) ?_ ?_); · (first | omega | (simp; done) | (simp; omega)))))⟩
    · have h1' : (1 : Int) ≤ l.length := by omega
      have h2' : (l.length : Int) ≤ 64 := by omega
      have hle : l.length ≤ 64 := by omega
      have e1 : chkN (l, fr) = if l.any genBad then 8 else if l.any valBad then 4 else if freeB (l, fr) then 0 else 10 := by
        unfold chkN; rw [if_neg (by simp only; omega)]
      have E1 := Lib.hid e1
      clear h1 h2 e1
      have c1 := fun (W : World) (hb : Below w.heap.size w W) => containswronggen_any (.slice pc l.length cc) l W (Hv.out.1.call hb) hl
      have c2 := fun (W : World) (hb : Below w.heap.size w W) => containsstray_any (.slice pc l.length cc) l W (Hv.out.1.call hb) hl
      have c3 := fun (W : World) (hb : Below w.heap.size w W) => right_any (.slice pc l.length cc) (.slice pf fr.length cf) (l, fr) W (Hv.out.call hb) hle hf
      cases a1 : l.any genBad
      · rw [a1] at c1
        cases a2 : l.any valBad
        · rw [a2] at c2
          cases a3 : freeB (l, fr)
          · rw [a3] at c3
            have HN : Hid (chkN (l, fr) = 10) := Lib.hid (by rw [E1.out, a1, a2, a3]; rfl)
            clear a1 a2 a3
            go_enter Try.func22, Try.ntmps22
            go_wp2_with (first | (go_at_call 42; refine (c3 _ (by (repeat (first | (with_reducible exact Below.refl _ _) | ((with_reducible refine below_alloc ?_ ?_ _); · (first | omega | (simp; done) | (simp; omega))) | ((with_reducible refine below_setCell ?_ ?_ _); · (first | omega | (simp; done) | (simp; omega))) | (with_reducible refine Below.drew ?_) | (with_reducible refine below_drewN ?_ _) | ((with_reducible refine below_call (by assumption) ?_ ?_); · (first | omega | (simp; done) | (simp; omega))))))).mono ?_; rintro e w4 ⟨rfl, hb4⟩; obtain ⟨hk4, hf4, hz4⟩ := bcellN (n := w.heap.size + 1) (by (try simp only [World.size_drew, World.size_alloc, World.size_setCell]); omega) hb4; have hz4_0 : w.heap.size < w4.heap.size := (by omega)) | (first | (go_at_call 39; refine (c1 _ (by (repeat (first | (with_reducible exact Below.refl _ _) | ((with_reducible refine below_alloc ?_ ?_ _); · (first | omega | (simp; done) | (simp; omega))) | ((with_reducible refine below_setCell ?_ ?_ _); · (first | omega | (simp; done) | (simp; omega))) | (with_reducible refine Below.drew ?_) | (with_reducible refine below_drewN ?_ _) | ((with_reducible refine below_call (by assumption) ?_ ?_); · (first | omega | (simp; done) | (simp; omega))))))).mono ?_; rintro e w2 ⟨rfl, hb2⟩; obtain ⟨hk2, hf2, hz2⟩ := bcellN (n := w.heap.size + 1) (by (try simp only [World.size_drew, World.size_alloc, World.size_setCell]); omega) hb2; have hz2_0 : w.heap.size < w2.heap.size := (by omega)) | (go_at_call 39; refine (c2 _ (by (repeat (first | (with_reducible exact Below.refl _ _) | ((with_reducible refine below_alloc ?_ ?_ _); · (first | omega | (simp; done) | (simp; omega))) | ((with_reducible refine below_setCell ?_ ?_ _); · (first | omega | (simp; done) | (simp; omega))) | (with_reducible refine Below.drew ?_) | (with_reducible refine below_drewN ?_ _) | ((with_reducible refine below_call (by assumption) ?_ ?_); · (first | omega | (simp; done) | (simp; omega))))))).mono ?_; rintro e w3 ⟨rfl, hb3⟩; obtain ⟨hk3, hf3, hz3⟩ := bcellN (n := w.heap.size + 1) (by (try simp only [World.size_drew, World.size_alloc, World.size_setCell]); omega) hb3; have hz3_0 : w.heap.size < w3.heap.size := (by omega))))
            go_ret
            exact ⟨ret_int HN.out.symm, by (repeat (first | (with_reducible exact Below.refl _ _) | ((with_reducible refine below_alloc ?_ ?_ _); · (first | omega | (simp; done) | (simp; omega))) | ((with_reducible refine below_setCell ?_ ?_ _); · (first | omega | (simp; done) | (simp; omega))) | (with_reducible refine Below.drew ?_) | (with_reducible refine below_drewN ?_ _) | ((with_reducible refine below_call (by assumption) ?_ ?_); · (first | omega | (simp; done) | (simp; omega)))))⟩
          · rw [a3] at c3
            have HN : Hid (chkN (l, fr) = 0) := Lib.hid (by rw [E1.out, a1, a2, a3]; rfl)
            clear a1 a2 a3
            go_enter Try.func22, Try.ntmps22
            go_wp2_with (first | (go_at_call 42; refine (c3 _ (by (repeat (first | (with_reducible exact Below.refl _ _) | ((with_reducible refine below_alloc ?_ ?_ _); · (first | omega | (simp; done) | (simp; omega))) | ((with_reducible refine below_setCell ?_ ?_ _); · (first | omega | (simp; done) | (simp; omega))) | (with_reducible refine Below.drew ?_) | (with_reducible refine below_drewN ?_ _) | ((with_reducible refine below_call (by assumption) ?_ ?_); · (first | omega | (simp; done) | (simp; omega))))))).mono ?_; rintro e w4 ⟨rfl, hb4⟩; obtain ⟨hk4, hf4, hz4⟩ := bcellN (n := w.heap.size + 1) (by (try simp only [World.size_drew, World.size_alloc, World.size_setCell]); omega) hb4; have hz4_0 : w.heap.size < w4.heap.size := (by omega)) | (first | (go_at_call 39; refine (c1 _ (by (repeat (first | (with_reducible exact Below.refl _ _) | ((with_reducible refine below_alloc ?_ ?_ _); · (first | omega | (simp; done) | (simp; omega))) | ((with_reducible refine below_setCell ?_ ?_ _); · (first | omega | (simp; done) | (simp; omega))) | (with_reducible refine Below.drew ?_) | (with_reducible refine below_drewN ?_ _) | ((with_reducible refine below_call (by assumption) ?_ ?_); · (first | omega | (simp; done) | (simp; omega))))))).mono ?_; rintro e w2 ⟨rfl, hb2⟩; obtain ⟨hk2, hf2, hz2⟩ := bcellN (n := w.heap.size + 1) (by (try simp only [World.size_drew, World.size_alloc, World.size_setCell]); omega) hb2; have hz2_0 : w.heap.size < w2.heap.size := (by omega)) | (go_at_call 39; refine (c2 _ (by (repeat (first | (with_reducible exact Below.refl _ _) | ((with_reducible refine below_alloc ?_ ?_ _); · (first | omega | (simp; done) | (simp; omega))) | ((with_reducible refine below_setCell ?_ ?_ _); · (first | omega | (simp; done) | (simp; omega))) | (with_reducible refine Below.drew ?_) | (with_reducible refine below_drewN ?_ _) | ((with_reducible refine below_call (by assumption) ?_ ?_); · (first | omega | (simp; done) | (simp; omega))))))).mono ?_; rintro e w3 ⟨rfl, hb3⟩; obtain ⟨hk3, hf3, hz3⟩ := bcellN (n := w.heap.size + 1) (by (try simp only [World.size_drew, World.size_alloc, World.size_setCell]); omega) hb3; have hz3_0 : w.heap.size < w3.heap.size := (by omega))))
            go_ret
            exact ⟨ret_int HN.out.symm, by (repeat (first | (with_reducible exact Below.refl _ _) | ((with_reducible refine below_alloc ?_ ?_ _); · (first | omega | (simp; done) | (simp; omega))) | ((with_reducible refine below_setCell ?_ ?_ _); · (first | omega | (simp; done) | (simp; omega))) | (with_reducible refine Below.drew ?_) | (with_reducible refine below_drewN ?_ _) | ((with_reducible refine below_call (by assumption) ?_ ?_); · (first | omega | (simp; done) | (simp; omega)))))⟩
        · rw [a2] at c2
          have HN : Hid (chkN (l, fr) = 4) := Lib.hid (by rw [E1.out, a1, a2]; rfl)
          clear a1 a2
          go_enter Try.func22, Try.ntmps22
          go_wp2_with (first | (go_at_call 39; refine (c1 _ (by (repeat (first | (with_reducible exact Below.refl _ _) | ((with_reducible refine below_alloc ?_ ?_ _); · (first | omega | (simp; done) | (simp; omega))) | ((with_reducible refine below_setCell ?_ ?_ _); · (first | omega | (simp; done) | (simp; omega))) | (with_reducible refine Below.drew ?_) | (with_reducible refine below_drewN ?_ _) | ((with_reducible refine below_call (by assumption) ?_ ?_); · (first | omega | (simp; done) | (simp; omega))))))).mono ?_; rintro e w2 ⟨rfl, hb2⟩; obtain ⟨hk2, hf2, hz2⟩ := bcellN (n := w.heap.size + 1) (by (try simp only [World.size_drew, World.size_alloc, World.size_setCell]); omega) hb2; have hz2_0 : w.heap.size < w2.heap.size := (by omega)) | (go_at_call 39; refine (c2 _ (by (repeat (first | (with_reducible exact Below.refl _ _) | ((with_reducible refine below_alloc ?_ ?_ _); · (first | omega | (simp; done) | (simp; omega))) | ((with_reducible refine below_setCell ?_ ?_ _); · (first | omega | (simp; done) | (simp; omega))) | (with_reducible refine Below.drew ?_) | (with_reducible refine below_drewN ?_ _) | ((with_reducible refine below_call (by assumption) ?_ ?_); · (first | omega | (simp; done) | (simp; omega))))))).mono ?_; rintro e w3 ⟨rfl, hb3⟩; obtain ⟨hk3, hf3, hz3⟩ := bcellN (n := w.heap.size + 1) (by (try simp only [World.size_drew, World.size_alloc, World.size_setCell]); omega) hb3; have hz3_0 : w.heap.size < w3.heap.size := (by omega)))
          go_ret
          exact ⟨ret_int HN.out.symm, by (repeat (first | (with_reducible exact Below.refl _ _) | ((with_reducible refine below_alloc ?_ ?_ _); · (first | omega | (simp; done) | (simp; omega))) | ((with_reducible refine below_setCell ?_ ?_ _); · (first | omega | (simp; done) | (simp; omega))) | (with_reducible refine Below.drew ?_) | (with_reducible refine below_drewN ?_ _) | ((with_reducible refine below_call (by assumption) ?_ ?_); · (first | omega | (simp; done) | (simp; omega)))))⟩
      · rw [a1] at c1
        have HN : Hid (chkN (l, fr) = 8) := Lib.hid (by rw [E1.out, a1]; rfl)
        clear a1
        go_enter Try.func22, Try.ntmps22
        go_wp2_with (go_at_call 39; refine (c1 _ (by (repeat (first | (with_reducible exact Below.refl _ _) | ((with_reducible refine below_alloc ?_ ?_ _); · (first | omega | (simp; done) | (simp; omega))) | ((with_reducible refine below_setCell ?_ ?_ _); · (first | omega | (simp; done) | (simp; omega))) | (with_reducible refine Below.drew ?_) | (with_reducible refine below_drewN ?_ _) | ((with_reducible refine below_call (by assumption) ?_ ?_); · (first | omega | (simp; done) | (simp; omega))))))).mono ?_; rintro e w2 ⟨rfl, hb2⟩; obtain ⟨hk2, hf2, hz2⟩ := bcellN (n := w.heap.size + 1) (by (try simp only [World.size_drew, World.size_alloc, World.size_setCell]); omega) hb2; have hz2_0 : w.heap.size < w2.heap.size := (by omega))
        go_ret
        exact ⟨ret_int HN.out.symm, by (repeat (first | (with_reducible exact Below.refl _ _) | ((with_reducible refine below_alloc ?_ ?_ _); · (first | omega | (simp; done) | (simp; omega))) | ((with_reducible refine below_setCell ?_ ?_ _); · (first | omega | (simp; done) | (simp; omega))) | (with_reducible refine Below.drew ?_) | (with_reducible refine below_drewN ?_ _) | ((with_reducible refine below_call (by assumption) ?_ ?_); · (first | omega | (simp; done) | (simp; omega)))))⟩
end Go.Proofs.Ytmnlpmfkoammhaa
