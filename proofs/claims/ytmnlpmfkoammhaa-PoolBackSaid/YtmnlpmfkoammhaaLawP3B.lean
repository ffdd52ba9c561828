/- PoolBack: who takes, and gives back at once, has as many as before, and the same place next, with another handle: the statement holds for every input. No condition. -/
import Derived.Test.YtmnlpmfkoammhaaLawKit
import Derived.Test.YtmnlpmfkoammhaaLawOpenS
import Derived.Test.YtmnlpmfkoammhaaP5M
import Derived.Deep.RegionHeld3
import Derived.Deep.DrawnRows
import Derived.Deep.DeepCutAuto
namespace Go.Proofs.Ytmnlpmfkoammhaa
open Go.RowKit Go.ChangeShapes Go.WideShapes Go.ChangeAt
set_option linter.unusedVariables false
set_option linter.unusedSimpArgs false
attribute [local go_sem ↓] Go.wp_at_zero Go.wp_at_succ


set_option maxRecDepth 100000 in
set_option maxHeartbeats 16000000 in
theorem pback_walk (c a v : Int) (w : World) (hc0 : 0 ≤ c) (hc1 : c ≤ 255) (ha0 : 0 ≤ a) (ha1 : a ≤ 255) :
    Calls Try.prog 6 #[.int .u8 c, .int .u8 a, .int .i64 v] w fun e w' => e = .returned (.bool true) ∧ Below w.heap.size w w' := by
  obtain ⟨M, hM⟩ : ∃ M : Nat, (M : Int) = c % 64 := ⟨(c % 64).toNat, by omega⟩
  have htc : Int.tmod c 64 = (M : Int) := by rw [hM]; exact Int.tmod_eq_emod_of_nonneg hc0
  obtain ⟨A, hA⟩ : ∃ A : Nat, (A : Int) = a % 60 := ⟨(a % 60).toNat, by omega⟩
  have hta : Int.tmod a 60 = (A : Int) := by rw [hA]; exact Int.tmod_eq_emod_of_nonneg ha0
  have hM0 : (0 : Int) ≤ M := by omega
  have hM1 : (M : Int) ≤ 63 := by omega
  have hA0 : (0 : Int) ≤ A := by omega
  have hA1 : (A : Int) ≤ 59 := by omega
  obtain ⟨N, hN⟩ : ∃ N : Nat, 1 + (M : Int) = N := ⟨1 + M, by omega⟩
  have hN1 : 1 ≤ N := by omega
  have hN2 : N ≤ 64 := by omega
  have hnew := (new_ok (n := (N : Int)) (by omega) (by omega)).1
  have hah := ahead_new hN1 hN2
  have c1 := fun W => new_any (N : Int) W
  rw [hnew] at c1 hah
  obtain ⟨st0, hst0⟩ : ∃ s : St, (List.replicate (N : Int).toNat zeroC, freeL (N : Int) (N : Int).toNat) = s := ⟨_, rfl⟩
  rw [hst0] at c1 hah
  have HA := Lib.hid hah
  have HN := Lib.hid hN
  have HNN := Lib.hid (And.intro hN1 hN2)
  clear hM hA hnew hst0 hah hN1 hN2 hc0 hc1 ha0 ha1
  go_enter Try.func6, Try.ntmps6
  go_wp2_with fail
  refine (c1 _).mono ?_; rintro e w1 ⟨vc1, vf1, rfl, s1, k1, hb1⟩
  obtain ⟨⟨p1, cc1, rfl, -⟩, ⟨q1, dd1, rfl, -⟩⟩ := id s1
  have S1 := Lib.hid s1
  have K1 := Lib.hid k1
  have hz1 := hb1.size
  clear s1 k1 c1
  go_wp2_with fail
  go_loopw [10] (fun i wr => ∃ (k : Nat) (st : St) (p q : Option Addr) (cc dd : Nat), i = .int .i64 k ∧ k ≤ A ∧ AheadInv N k st ∧ wr.heap[w1.heap.size]? = some (.cells #[.slice p st.1.length cc, .slice q st.2.length dd] 30) ∧ IsSt wr (.slice p st.1.length cc) (.slice q st.2.length dd) st ∧ CapOk (.slice q st.2.length dd) ∧ Below w.heap.size w wr) (fun i _ => A - (intOf i).toNat)
  case atStart => exact ⟨0, st0, p1, q1, cc1, dd1, rfl, by omega, HA.out, heap_alloc_new _ _, S1.out.call ((Below.refl _ _).alloc (Nat.le_refl _) _), K1.out, by (repeat (first | (with_reducible exact Below.refl _ _) | ((with_reducible refine below_alloc ?_ ?_ _); · (first | omega | (simp; done) | (simp; omega))) | ((with_reducible refine below_setCell ?_ ?_ _); · (first | omega | (simp; done) | (simp; omega))) | (with_reducible refine Below.drew ?_) | (with_reducible refine below_drewN ?_ _) | ((with_reducible refine below_call (by assumption) ?_ ?_); · (first | omega | (simp; done) | (simp; omega)))))⟩
  case round =>
    obtain ⟨k, st, p, q, cc, dd, rfl, hk, hI, hbox, hst, hcap, hB⟩ := hrel
    obtain ⟨ok, l1', l2, l3⟩ := ahead_ok hI
    have l1 : st.1.length ≤ 64 := by omega
    clear l1'
    have e0 := Lib.cell_of_heap hbox 0
    have e1 := Lib.cell_of_heap hbox 1
    have ef := Lib.frozen_of_heap hbox
    have hzb : w1.heap.size < wr.heap.size := (Array.getElem?_eq_some_iff.1 hbox).1
    simp at e0 e1
    have HX := Lib.hid (And.intro hI (And.intro hbox (And.intro hst hcap)))
    by_cases hlt : k < A
    · have hlt' : (k : Int) < A := by omega
      have ct := take_any (.slice p st.1.length cc) (.slice q st.2.length dd) st k wr hst hcap (by omega) (by omega)
      clear hI hbox hst hcap ok
      go_wp2_with fail
      refine ct.mono ?_; rintro e w2 ⟨vc2, vf2, rfl, s2, k2, hb2⟩
      obtain ⟨⟨p2, cc2, rfl, -⟩, ⟨q2, dd2, rfl, -⟩⟩ := id s2
      obtain ⟨hk2, hf2, hz2⟩ := bcellAt (b := w1.heap.size) hzb hb2
      have S2 := Lib.hid s2
      have K2 := Lib.hid k2
      clear s2 k2 ct
      go_wp2_with fail
      go_roundw
      case rel =>
        have hbx := (hb2.block w1.heap.size hzb).trans HX.out.2.1
        refine ⟨k + 1, (takeN st k).1, p2, q2, cc2, dd2, by go_num, by omega, ahead_take HX.out.1 k, box_set hbx _ _, S2.out.far2 hbx ⟨_, _, _, rfl⟩ ⟨_, _, _, rfl⟩ _ _, K2.out, by (repeat (first | (with_reducible exact Below.refl _ _) | ((with_reducible refine below_alloc ?_ ?_ _); · (first | omega | (simp; done) | (simp; omega))) | ((with_reducible refine below_setCell ?_ ?_ _); · (first | omega | (simp; done) | (simp; omega))) | (with_reducible refine Below.drew ?_) | (with_reducible refine below_drewN ?_ _) | ((with_reducible refine below_call (by assumption) ?_ ?_); · (first | omega | (simp; done) | (simp; omega)))))⟩
      case measure => simp [intOf]; omega
    · obtain rfl : k = A := by omega
      have ct := take_any (.slice p st.1.length cc) (.slice q st.2.length dd) st v wr hst hcap (by omega) (by omega)
      have cu := fun W (h : Fr wr W) => used_any (.slice p st.1.length cc) (.slice q st.2.length dd) st W (hst.call h) (by omega) (by omega)
      have hnk : k ≤ 1000 := by omega
      have BF := back_facts hI hnk v
      have hss := sameB_self st
      clear hI hbox hst hcap ok
      rcases BF with ⟨f1, f2⟩ | ⟨X, Y, Z, h, u, f1, f2, f3, f4, f5, f6, f7, f8, f9, f10, f11, f12⟩
      · rw [f1] at ct
        rw [f2] at cu
        go_wp2_with fail
        refine ct.mono ?_; rintro e w2 ⟨vc2, vf2, rfl, s2, k2, hb2⟩
        obtain ⟨⟨p2, cc2, rfl, -⟩, ⟨q2, dd2, rfl, -⟩⟩ := id s2
        obtain ⟨hk2, hf2, hz2⟩ := bcellAt (b := w1.heap.size) hzb hb2
        have hs2 := hb2.size
        have S2 := Lib.hid s2
        have cs := fun W (h2 : Fr w2 W) => same_any _ _ _ _ st st W (s2.call h2) (HX.out.2.2.1.call (show Fr wr W from Fr.call hb2 h2)) (by omega) (by omega) (by omega)
        rw [hss] at cs
        have HX2 := HX
        clear s2 k2 ct hnk hss
        go_wp2_with fail
        refine (cu _ (by show Fr wr _; unfold Fr; (repeat (first | (with_reducible exact Below.refl _ _) | ((with_reducible refine below_alloc ?_ ?_ _); · (first | omega | (simp; done) | (simp; omega))) | ((with_reducible refine below_setCell ?_ ?_ _); · (first | omega | (simp; done) | (simp; omega))) | (with_reducible refine Below.drew ?_) | (with_reducible refine below_drewN ?_ _) | ((with_reducible refine below_call (by assumption) ?_ ?_); · (first | omega | (simp; done) | (simp; omega))))))).mono ?_; rintro e w3 ⟨rfl, hb3⟩
        obtain ⟨hk3, hf3, hz3⟩ := bcellN (n := w.heap.size + 0) (by (try simp only [World.size_drew, World.size_alloc, World.size_setCell]); omega) hb3; obtain ⟨hk3w1, hf3w1, hz3w1⟩ := bcellAt (b := w1.heap.size) (by (try simp only [World.size_drew, World.size_alloc, World.size_setCell]); omega) hb3; obtain ⟨hk3w2, hf3w2, hz3w2⟩ := bcellAt (b := w2.heap.size) (by (try simp only [World.size_drew, World.size_alloc, World.size_setCell]); omega) hb3
        have hs3 := hb3.size; (try simp only [World.size_alloc, World.size_setCell] at hs3)
        go_wp2_with fail
        refine (cs _ (by show Fr w2 _; unfold Fr; (repeat (first | (with_reducible exact Below.refl _ _) | ((with_reducible refine below_alloc ?_ ?_ _); · (first | omega | (simp; done) | (simp; omega))) | ((with_reducible refine below_setCell ?_ ?_ _); · (first | omega | (simp; done) | (simp; omega))) | (with_reducible refine Below.drew ?_) | (with_reducible refine below_drewN ?_ _) | ((with_reducible refine below_call (by assumption) ?_ ?_); · (first | omega | (simp; done) | (simp; omega))))))).mono ?_; rintro e w4 ⟨rfl, hb4⟩
        have hs4 := hb4.size
        go_wp2_with fail
        refine (awake_any _).mono ?_; rintro e w5 ⟨rfl, hb5⟩
        have hs5 := hb5.size
        go_wp2_with fail
        go_ret
        exact ⟨rfl, by (repeat (first | (with_reducible exact Below.refl _ _) | ((with_reducible refine below_alloc ?_ ?_ _); · (first | omega | (simp; done) | (simp; omega))) | ((with_reducible refine below_setCell ?_ ?_ _); · (first | omega | (simp; done) | (simp; omega))) | (with_reducible refine Below.drew ?_) | (with_reducible refine below_drewN ?_ _) | ((with_reducible refine below_call (by assumption) ?_ ?_); · (first | omega | (simp; done) | (simp; omega)))))⟩
      · rw [f1] at ct
        have ce := fun vc vf W (hv : IsSt W vc vf X) (hc : CapOk vf) => give_any vc vf X h W hv hc (by omega) (by omega)
        rw [f2] at ce
        have cf := fun vc vf W (hv : IsSt W vc vf Y) (hc : CapOk vf) => take_any vc vf Y v W hv hc (by omega) (by omega)
        rw [f3] at cf
        have cg := fun vc vf W (hv : IsSt W vc vf Z) => get_any vc vf Z (h + 64) W hv (by omega) (by omega)
        rw [f4] at cg
        have ci := fun vc vf W (hv : IsSt W vc vf Z) => get_any vc vf Z h W hv (by omega) (by omega)
        rw [f5] at ci
        have ux := fun vc vf W (hv : IsSt W vc vf X) => used_any vc vf X W hv (by omega) (by omega)
        have uy := fun vc vf W (hv : IsSt W vc vf Y) => used_any vc vf Y W hv (by omega) (by omega)
        have uz := fun vc vf W (hv : IsSt W vc vf Z) => used_any vc vf Z W hv (by omega) (by omega)
        rw [f6] at uy
        rw [f7] at uz
        have us := fun vc vf W (hv : IsSt W vc vf st) => used_any vc vf st W hv (by omega) (by omega)
        obtain ⟨L1, hL1⟩ : ∃ L : Int, ((hanN st).length : Int) = L := ⟨_, rfl⟩
        obtain ⟨L2, hL2⟩ : ∃ L : Int, ((hanN X).length : Int) = L := ⟨_, rfl⟩
        rw [hL1] at uy us
        rw [hL2] at uz ux
        have hh1 : h ≤ 100000000 := f9
        have hh0 : 0 ≤ h := f8
        obtain ⟨h2, hh2⟩ : ∃ h2, h + 64 = h2 := ⟨_, rfl⟩
        rw [hh2] at cf cg
        have HL := Lib.hid (And.intro l1 l3)
        have hw2 : IntKind.i64.wrap (h + 64) = h2 := by rw [← hh2]; exact IntWalk.i64_in _ (by omega)
        clear f1 f2 f3 f4 f5 f6 f7 f8 f9 f10 f11 f12 hss hnk hL1 hL2 cu hh2
        go_wp2_with fail
        refine ct.mono ?_; rintro e w2 ⟨vc2, vf2, rfl, s2, k2, hb2⟩
        obtain ⟨⟨p2, cc2, rfl, -⟩, ⟨q2, dd2, rfl, -⟩⟩ := id s2
        obtain ⟨hk2, hf2, hz2⟩ := bcellN (n := w.heap.size + 0) (by (try simp only [World.size_drew, World.size_alloc, World.size_setCell]); omega) hb2; obtain ⟨hk2w1, hf2w1, hz2w1⟩ := bcellAt (b := w1.heap.size) (by (try simp only [World.size_drew, World.size_alloc, World.size_setCell]); omega) hb2
        have hs2 := hb2.size
        have S2 := Lib.hid s2
        have K2 := Lib.hid k2
        clear s2 k2 ct
        go_wp2_with fail
        refine (ce _ _ _ (by exact S2.out.call (by (repeat (first | (with_reducible exact Below.refl _ _) | ((with_reducible refine below_alloc ?_ ?_ _); · (first | omega | (simp; done) | (simp; omega))) | ((with_reducible refine below_setCell ?_ ?_ _); · (first | omega | (simp; done) | (simp; omega))) | (with_reducible refine Below.drew ?_) | (with_reducible refine below_drewN ?_ _) | ((with_reducible refine below_call (by assumption) ?_ ?_); · (first | omega | (simp; done) | (simp; omega))))))) K2.out).mono ?_; rintro e w4 ⟨vc4, vf4, rfl, s4, k4, hb4⟩
        obtain ⟨⟨p4, cc4, rfl, -⟩, ⟨q4, dd4, rfl, -⟩⟩ := id s4
        obtain ⟨hk4, hf4, hz4⟩ := bcellN (n := w.heap.size + 0) (by (try simp only [World.size_drew, World.size_alloc, World.size_setCell]); omega) hb4; obtain ⟨hk4w1, hf4w1, hz4w1⟩ := bcellAt (b := w1.heap.size) (by (try simp only [World.size_drew, World.size_alloc, World.size_setCell]); omega) hb4; obtain ⟨hk4w2, hf4w2, hz4w2⟩ := bcellAt (b := w2.heap.size) (by (try simp only [World.size_drew, World.size_alloc, World.size_setCell]); omega) hb4
        have hs4 := hb4.size; (try simp only [World.size_alloc, World.size_setCell] at hs4)
        have S4 := Lib.hid s4
        have K4 := Lib.hid k4
        clear s4 k4 ce
        go_wp2_with fail
        refine (cf _ _ _ (by exact S4.out.call (by (repeat (first | (with_reducible exact Below.refl _ _) | ((with_reducible refine below_alloc ?_ ?_ _); · (first | omega | (simp; done) | (simp; omega))) | ((with_reducible refine below_setCell ?_ ?_ _); · (first | omega | (simp; done) | (simp; omega))) | (with_reducible refine Below.drew ?_) | (with_reducible refine below_drewN ?_ _) | ((with_reducible refine below_call (by assumption) ?_ ?_); · (first | omega | (simp; done) | (simp; omega))))))) K4.out).mono ?_; rintro e w5 ⟨vc5, vf5, rfl, s5, k5, hb5⟩
        obtain ⟨⟨p5, cc5, rfl, -⟩, ⟨q5, dd5, rfl, -⟩⟩ := id s5
        obtain ⟨hk5, hf5, hz5⟩ := bcellN (n := w.heap.size + 0) (by (try simp only [World.size_drew, World.size_alloc, World.size_setCell]); omega) hb5; obtain ⟨hk5w1, hf5w1, hz5w1⟩ := bcellAt (b := w1.heap.size) (by (try simp only [World.size_drew, World.size_alloc, World.size_setCell]); omega) hb5; obtain ⟨hk5w2, hf5w2, hz5w2⟩ := bcellAt (b := w2.heap.size) (by (try simp only [World.size_drew, World.size_alloc, World.size_setCell]); omega) hb5; obtain ⟨hk5w4, hf5w4, hz5w4⟩ := bcellAt (b := w4.heap.size) (by (try simp only [World.size_drew, World.size_alloc, World.size_setCell]); omega) hb5
        have hs5 := hb5.size; (try simp only [World.size_alloc, World.size_setCell] at hs5)
        have S5 := Lib.hid s5
        clear s5 k5 cf
        go_wp2_with fail
        refine (cg _ _ _ (by exact S5.out.call (by (repeat (first | (with_reducible exact Below.refl _ _) | ((with_reducible refine below_alloc ?_ ?_ _); · (first | omega | (simp; done) | (simp; omega))) | ((with_reducible refine below_setCell ?_ ?_ _); · (first | omega | (simp; done) | (simp; omega))) | (with_reducible refine Below.drew ?_) | (with_reducible refine below_drewN ?_ _) | ((with_reducible refine below_call (by assumption) ?_ ?_); · (first | omega | (simp; done) | (simp; omega)))))))).mono ?_; rintro e w6 ⟨rfl, hb6⟩
        obtain ⟨hk6, hf6, hz6⟩ := bcellN (n := w.heap.size + 0) (by (try simp only [World.size_drew, World.size_alloc, World.size_setCell]); omega) hb6; obtain ⟨hk6w1, hf6w1, hz6w1⟩ := bcellAt (b := w1.heap.size) (by (try simp only [World.size_drew, World.size_alloc, World.size_setCell]); omega) hb6; obtain ⟨hk6w2, hf6w2, hz6w2⟩ := bcellAt (b := w2.heap.size) (by (try simp only [World.size_drew, World.size_alloc, World.size_setCell]); omega) hb6; obtain ⟨hk6w4, hf6w4, hz6w4⟩ := bcellAt (b := w4.heap.size) (by (try simp only [World.size_drew, World.size_alloc, World.size_setCell]); omega) hb6; obtain ⟨hk6w5, hf6w5, hz6w5⟩ := bcellAt (b := w5.heap.size) (by (try simp only [World.size_drew, World.size_alloc, World.size_setCell]); omega) hb6
        have hs6 := hb6.size; (try simp only [World.size_alloc, World.size_setCell] at hs6)
        clear cg
        go_wp2_with fail
        refine (ci _ _ _ (by exact S5.out.call (by (repeat (first | (with_reducible exact Below.refl _ _) | ((with_reducible refine below_alloc ?_ ?_ _); · (first | omega | (simp; done) | (simp; omega))) | ((with_reducible refine below_setCell ?_ ?_ _); · (first | omega | (simp; done) | (simp; omega))) | (with_reducible refine Below.drew ?_) | (with_reducible refine below_drewN ?_ _) | ((with_reducible refine below_call (by assumption) ?_ ?_); · (first | omega | (simp; done) | (simp; omega)))))))).mono ?_; rintro e w7 ⟨rfl, hb7⟩
        obtain ⟨hk7, hf7, hz7⟩ := bcellN (n := w.heap.size + 0) (by (try simp only [World.size_drew, World.size_alloc, World.size_setCell]); omega) hb7; obtain ⟨hk7w1, hf7w1, hz7w1⟩ := bcellAt (b := w1.heap.size) (by (try simp only [World.size_drew, World.size_alloc, World.size_setCell]); omega) hb7; obtain ⟨hk7w2, hf7w2, hz7w2⟩ := bcellAt (b := w2.heap.size) (by (try simp only [World.size_drew, World.size_alloc, World.size_setCell]); omega) hb7; obtain ⟨hk7w4, hf7w4, hz7w4⟩ := bcellAt (b := w4.heap.size) (by (try simp only [World.size_drew, World.size_alloc, World.size_setCell]); omega) hb7; obtain ⟨hk7w5, hf7w5, hz7w5⟩ := bcellAt (b := w5.heap.size) (by (try simp only [World.size_drew, World.size_alloc, World.size_setCell]); omega) hb7
        have hs7 := hb7.size
        clear ci
        go_upto_region 16 with fail
        have e00' : w7.cell? ⟨w1.heap.size, 0, none⟩ = some (.slice p st.1.length cc) := by simp [go_sem, *]
        have e01' : w7.cell? ⟨w1.heap.size, 1, none⟩ = some (.slice q st.2.length dd) := by simp [go_sem, *]
        have I0 : IsSt w7 (.slice p st.1.length cc) (.slice q st.2.length dd) st := HX.out.2.2.1.call (by (repeat (first | (with_reducible exact Below.refl _ _) | ((with_reducible refine below_alloc ?_ ?_ _); · (first | omega | (simp; done) | (simp; omega))) | ((with_reducible refine below_setCell ?_ ?_ _); · (first | omega | (simp; done) | (simp; omega))) | (with_reducible refine Below.drew ?_) | (with_reducible refine below_drewN ?_ _) | ((with_reducible refine below_call (by assumption) ?_ ?_); · (first | omega | (simp; done) | (simp; omega))))))
        have e10' : w7.cell? ⟨w2.heap.size, 0, none⟩ = some (.slice p2 X.1.length cc2) := by simp [go_sem, *]
        have e11' : w7.cell? ⟨w2.heap.size, 1, none⟩ = some (.slice q2 X.2.length dd2) := by simp [go_sem, *]
        have I1 : IsSt w7 (.slice p2 X.1.length cc2) (.slice q2 X.2.length dd2) X := S2.out.call (by (repeat (first | (with_reducible exact Below.refl _ _) | ((with_reducible refine below_alloc ?_ ?_ _); · (first | omega | (simp; done) | (simp; omega))) | ((with_reducible refine below_setCell ?_ ?_ _); · (first | omega | (simp; done) | (simp; omega))) | (with_reducible refine Below.drew ?_) | (with_reducible refine below_drewN ?_ _) | ((with_reducible refine below_call (by assumption) ?_ ?_); · (first | omega | (simp; done) | (simp; omega))))))
        have e20' : w7.cell? ⟨w4.heap.size, 0, none⟩ = some (.slice p4 Y.1.length cc4) := by simp [go_sem, *]
        have e21' : w7.cell? ⟨w4.heap.size, 1, none⟩ = some (.slice q4 Y.2.length dd4) := by simp [go_sem, *]
        have I2 : IsSt w7 (.slice p4 Y.1.length cc4) (.slice q4 Y.2.length dd4) Y := S4.out.call (by (repeat (first | (with_reducible exact Below.refl _ _) | ((with_reducible refine below_alloc ?_ ?_ _); · (first | omega | (simp; done) | (simp; omega))) | ((with_reducible refine below_setCell ?_ ?_ _); · (first | omega | (simp; done) | (simp; omega))) | (with_reducible refine Below.drew ?_) | (with_reducible refine below_drewN ?_ _) | ((with_reducible refine below_call (by assumption) ?_ ?_); · (first | omega | (simp; done) | (simp; omega))))))
        have e30' : w7.cell? ⟨w5.heap.size, 0, none⟩ = some (.slice p5 Z.1.length cc5) := by simp [go_sem, *]
        have e31' : w7.cell? ⟨w5.heap.size, 1, none⟩ = some (.slice q5 Z.2.length dd5) := by simp [go_sem, *]
        have I3 : IsSt w7 (.slice p5 Z.1.length cc5) (.slice q5 Z.2.length dd5) Z := S5.out.call (by (repeat (first | (with_reducible exact Below.refl _ _) | ((with_reducible refine below_alloc ?_ ?_ _); · (first | omega | (simp; done) | (simp; omega))) | ((with_reducible refine below_setCell ?_ ?_ _); · (first | omega | (simp; done) | (simp; omega))) | (with_reducible refine Below.drew ?_) | (with_reducible refine below_drewN ?_ _) | ((with_reducible refine below_call (by assumption) ?_ ?_); · (first | omega | (simp; done) | (simp; omega))))))
        have hBW : Below w.heap.size w w7 := by (repeat (first | (with_reducible exact Below.refl _ _) | ((with_reducible refine below_alloc ?_ ?_ _); · (first | omega | (simp; done) | (simp; omega))) | ((with_reducible refine below_setCell ?_ ?_ _); · (first | omega | (simp; done) | (simp; omega))) | (with_reducible refine Below.drew ?_) | (with_reducible refine below_drewN ?_ _) | ((with_reducible refine below_call (by assumption) ?_ ?_); · (first | omega | (simp; done) | (simp; omega)))))
        obtain ⟨a0, ha0⟩ : ∃ a, w1.heap.size = a := ⟨_, rfl⟩
        rw [ha0] at e00' e01' ⊢
        obtain ⟨a1, ha1⟩ : ∃ a, w2.heap.size = a := ⟨_, rfl⟩
        rw [ha1] at e10' e11' ⊢
        obtain ⟨a2, ha2⟩ : ∃ a, w4.heap.size = a := ⟨_, rfl⟩
        rw [ha2] at e20' e21' ⊢
        obtain ⟨a3, ha3⟩ : ∃ a, w5.heap.size = a := ⟨_, rfl⟩
        rw [ha3] at e30' e31' ⊢
        have hout : ∀ w', Fr w7 w' → w'.cell? ⟨a0, 0, none⟩ = some (.slice p st.1.length cc) ∧ w'.cell? ⟨a0, 1, none⟩ = some (.slice q st.2.length dd) ∧ w'.cell? ⟨a1, 0, none⟩ = some (.slice p2 X.1.length cc2) ∧ w'.cell? ⟨a1, 1, none⟩ = some (.slice q2 X.2.length dd2) ∧ w'.cell? ⟨a2, 0, none⟩ = some (.slice p4 Y.1.length cc4) ∧ w'.cell? ⟨a2, 1, none⟩ = some (.slice q4 Y.2.length dd4) ∧ w'.cell? ⟨a3, 0, none⟩ = some (.slice p5 Z.1.length cc5) ∧ w'.cell? ⟨a3, 1, none⟩ = some (.slice q5 Z.2.length dd5) := fun w' hF => ⟨(Below.cell hF (p := ⟨a0, 0, none⟩) (World.block_lt_of_cell? _ _ e00')).trans e00', (Below.cell hF (p := ⟨a0, 1, none⟩) (World.block_lt_of_cell? _ _ e01')).trans e01', (Below.cell hF (p := ⟨a1, 0, none⟩) (World.block_lt_of_cell? _ _ e10')).trans e10', (Below.cell hF (p := ⟨a1, 1, none⟩) (World.block_lt_of_cell? _ _ e11')).trans e11', (Below.cell hF (p := ⟨a2, 0, none⟩) (World.block_lt_of_cell? _ _ e20')).trans e20', (Below.cell hF (p := ⟨a2, 1, none⟩) (World.block_lt_of_cell? _ _ e21')).trans e21', (Below.cell hF (p := ⟨a3, 0, none⟩) (World.block_lt_of_cell? _ _ e30')).trans e30', (Below.cell hF (p := ⟨a3, 1, none⟩) (World.block_lt_of_cell? _ _ e31')).trans e31'⟩
        have F0 : Fr w7 w7.drew := Below.drew (Below.refl _ _)
        have HB := Lib.hid hBW
        have J0 := Lib.hid I0; clear I0
        have J1 := Lib.hid I1; clear I1
        have J2 := Lib.hid I2; clear I2
        have J3 := Lib.hid I3; clear I3
        clear e00' e01' e10' e11' e20' e21' e30' e31' hBW
        clear hB HX HA S1 K1 S2 K2 S4 K4 S5 e0 e1 ef
        refine wp_region_held_drew (S := fun w' => w'.cell? ⟨a0, 0, none⟩ = some (.slice p st.1.length cc) ∧ w'.cell? ⟨a0, 1, none⟩ = some (.slice q st.2.length dd) ∧ w'.cell? ⟨a1, 0, none⟩ = some (.slice p2 X.1.length cc2) ∧ w'.cell? ⟨a1, 1, none⟩ = some (.slice q2 X.2.length dd2) ∧ w'.cell? ⟨a2, 0, none⟩ = some (.slice p4 Y.1.length cc4) ∧ w'.cell? ⟨a2, 1, none⟩ = some (.slice q4 Y.2.length dd4) ∧ w'.cell? ⟨a3, 0, none⟩ = some (.slice p5 Z.1.length cc5) ∧ w'.cell? ⟨a3, 1, none⟩ = some (.slice q5 Z.2.length dd5)) (by kernel_rfl) (hout _ (by assumption)) (fun hHeld => ?_)
        (refine wpAnyH_take (i := 0) (v := ?_) rfl (by kernel_rfl) (by kernel_rfl) (by kernel_rfl) (fun _ _ _ h => h) (Or.inl ⟨by rfl, ?_⟩) (by assumption) ?_; rotate_left 1; (focus (intro wz hz; (try dsimp only at hz); (try simp only [List.getElem_toArray, List.getElem_cons_succ, List.getElem_cons_zero]); go_simp; try (with_reducible rfl); done)))
        try simp only [Act.put, List.getElem_toArray, List.getElem_cons_succ, List.getElem_cons_zero, List.setIfInBounds_toArray, List.set_cons_zero, List.set_cons_succ]
        (refine wpAnyH_take (i := 1) (v := ?_) rfl (by kernel_rfl) (by kernel_rfl) (by kernel_rfl) (fun _ _ _ h => h) (Or.inl ⟨by rfl, ?_⟩) (by assumption) ?_; rotate_left 1; (focus (intro wz hz; (try dsimp only at hz); (try simp only [List.getElem_toArray, List.getElem_cons_succ, List.getElem_cons_zero]); go_simp; try (with_reducible rfl); done)))
        try simp only [Act.put, List.getElem_toArray, List.getElem_cons_succ, List.getElem_cons_zero, List.setIfInBounds_toArray, List.set_cons_zero, List.set_cons_succ]
        (refine wpAnyH_take (i := 2) (v := ?_) rfl (by kernel_rfl) (by kernel_rfl) (by kernel_rfl) (fun _ _ _ h => h) (Or.inl ⟨by rfl, ?_⟩) (by assumption) ?_; rotate_left 1; (focus (intro wz hz; (try dsimp only at hz); (try simp only [List.getElem_toArray, List.getElem_cons_succ, List.getElem_cons_zero]); go_simp; try (with_reducible rfl); done)))
        try simp only [Act.put, List.getElem_toArray, List.getElem_cons_succ, List.getElem_cons_zero, List.setIfInBounds_toArray, List.set_cons_zero, List.set_cons_succ]
        first | (refine wpAnyH_take (i := 3) (v := ?_) rfl (by kernel_rfl) (by kernel_rfl) (by kernel_rfl) (fun _ _ _ h => h) (Or.inl ⟨by rfl, ?_⟩) (by assumption) ?_; rotate_left 1; (focus (intro wz hz; (try dsimp only at hz); (try simp only [List.getElem_toArray, List.getElem_cons_succ, List.getElem_cons_zero]); go_simp; try (with_reducible rfl); done))) | (refine wpAnyH_take (i := 3) (v := undef) rfl (by kernel_rfl) (by kernel_rfl) (by kernel_rfl) (fun _ _ _ h => h) (Or.inr ⟨by rfl, rfl⟩) (by assumption) ?_)
        try simp only [Act.put, List.getElem_toArray, List.getElem_cons_succ, List.getElem_cons_zero, List.setIfInBounds_toArray, List.set_cons_zero, List.set_cons_succ]
        first | (refine wpAnyH_take (i := 4) (v := ?_) rfl (by kernel_rfl) (by kernel_rfl) (by kernel_rfl) (fun _ _ _ h => h) (Or.inl ⟨by rfl, ?_⟩) (by assumption) ?_; rotate_left 1; (focus (intro wz hz; (try dsimp only at hz); (try simp only [List.getElem_toArray, List.getElem_cons_succ, List.getElem_cons_zero]); go_simp; try (with_reducible rfl); done))) | (refine wpAnyH_take (i := 4) (v := undef) rfl (by kernel_rfl) (by kernel_rfl) (by kernel_rfl) (fun _ _ _ h => h) (Or.inr ⟨by rfl, rfl⟩) (by assumption) ?_)
        try simp only [Act.put, List.getElem_toArray, List.getElem_cons_succ, List.getElem_cons_zero, List.setIfInBounds_toArray, List.set_cons_zero, List.set_cons_succ]
        (refine wpAnyH_take (i := 5) (v := ?_) rfl (by kernel_rfl) (by kernel_rfl) (by kernel_rfl) (fun _ _ _ h => h) (Or.inl ⟨by rfl, ?_⟩) (by assumption) ?_; rotate_left 1; (focus (intro wz hz; (try dsimp only at hz); (try simp only [List.getElem_toArray, List.getElem_cons_succ, List.getElem_cons_zero]); go_simp; try (with_reducible rfl); done)))
        try simp only [Act.put, List.getElem_toArray, List.getElem_cons_succ, List.getElem_cons_zero, List.setIfInBounds_toArray, List.set_cons_zero, List.set_cons_succ]
        (refine wpAnyH_take (i := 6) (v := ?_) rfl (by kernel_rfl) (by kernel_rfl) (by kernel_rfl) (fun _ _ _ h => h) (Or.inl ⟨by rfl, ?_⟩) (by assumption) ?_; rotate_left 1; (focus (intro wz hz; (try dsimp only at hz); (try simp only [List.getElem_toArray, List.getElem_cons_succ, List.getElem_cons_zero]); go_simp; try (with_reducible rfl); done)))
        try simp only [Act.put, List.getElem_toArray, List.getElem_cons_succ, List.getElem_cons_zero, List.setIfInBounds_toArray, List.set_cons_zero, List.set_cons_succ]
        first | (refine wpAnyH_take (i := 7) (v := ?_) rfl (by kernel_rfl) (by kernel_rfl) (by kernel_rfl) (fun _ _ _ h => h) (Or.inl ⟨by rfl, ?_⟩) (by assumption) ?_; rotate_left 1; (focus (intro wz hz; (try dsimp only at hz); (try simp only [List.getElem_toArray, List.getElem_cons_succ, List.getElem_cons_zero]); go_simp; try (with_reducible rfl); done))) | (refine wpAnyH_take (i := 7) (v := undef) rfl (by kernel_rfl) (by kernel_rfl) (by kernel_rfl) (fun _ _ _ h => h) (Or.inr ⟨by rfl, rfl⟩) (by assumption) ?_)
        try simp only [Act.put, List.getElem_toArray, List.getElem_cons_succ, List.getElem_cons_zero, List.setIfInBounds_toArray, List.set_cons_zero, List.set_cons_succ]
        first | (refine wpAnyH_take (i := 8) (v := ?_) rfl (by kernel_rfl) (by kernel_rfl) (by kernel_rfl) (fun _ _ _ h => h) (Or.inl ⟨by rfl, ?_⟩) (by assumption) ?_; rotate_left 1; (focus (intro wz hz; (try dsimp only at hz); (try simp only [List.getElem_toArray, List.getElem_cons_succ, List.getElem_cons_zero]); go_simp; try (with_reducible rfl); done))) | (refine wpAnyH_take (i := 8) (v := undef) rfl (by kernel_rfl) (by kernel_rfl) (by kernel_rfl) (fun _ _ _ h => h) (Or.inr ⟨by rfl, rfl⟩) (by assumption) ?_)
        try simp only [Act.put, List.getElem_toArray, List.getElem_cons_succ, List.getElem_cons_zero, List.setIfInBounds_toArray, List.set_cons_zero, List.set_cons_succ]
        first | (refine wpAnyH_take (i := 9) (v := ?_) rfl (by kernel_rfl) (by kernel_rfl) (by kernel_rfl) (fun _ _ _ h => h) (Or.inl ⟨by rfl, ?_⟩) (by assumption) ?_; rotate_left 1; (focus (intro wz hz; (try dsimp only at hz); (try simp only [List.getElem_toArray, List.getElem_cons_succ, List.getElem_cons_zero]); go_simp; try (with_reducible rfl); done))) | (refine wpAnyH_take (i := 9) (v := undef) rfl (by kernel_rfl) (by kernel_rfl) (by kernel_rfl) (fun _ _ _ h => h) (Or.inr ⟨by rfl, rfl⟩) (by assumption) ?_)
        try simp only [Act.put, List.getElem_toArray, List.getElem_cons_succ, List.getElem_cons_zero, List.setIfInBounds_toArray, List.set_cons_zero, List.set_cons_succ]
        first | (refine wpAnyH_take (i := 10) (v := ?_) rfl (by kernel_rfl) (by kernel_rfl) (by kernel_rfl) (fun _ _ _ h => h) (Or.inl ⟨by rfl, ?_⟩) (by assumption) ?_; rotate_left 1; (focus (intro wz hz; (try dsimp only at hz); (try simp only [List.getElem_toArray, List.getElem_cons_succ, List.getElem_cons_zero]); go_simp; try (with_reducible rfl); done))) | (refine wpAnyH_take (i := 10) (v := undef) rfl (by kernel_rfl) (by kernel_rfl) (by kernel_rfl) (fun _ _ _ h => h) (Or.inr ⟨by rfl, rfl⟩) (by assumption) ?_)
        try simp only [Act.put, List.getElem_toArray, List.getElem_cons_succ, List.getElem_cons_zero, List.setIfInBounds_toArray, List.set_cons_zero, List.set_cons_succ]
        (refine wpAnyH_take (i := 11) (v := ?_) rfl (by kernel_rfl) (by kernel_rfl) (by kernel_rfl) (fun _ _ _ h => h) (Or.inl ⟨by rfl, ?_⟩) (by assumption) ?_; rotate_left 1; (focus (intro wz hz; (try dsimp only at hz); (try simp only [List.getElem_toArray, List.getElem_cons_succ, List.getElem_cons_zero]); go_simp; try (with_reducible rfl); done)))
        try simp only [Act.put, List.getElem_toArray, List.getElem_cons_succ, List.getElem_cons_zero, List.setIfInBounds_toArray, List.set_cons_zero, List.set_cons_succ]
        (refine wpAnyH_take (i := 12) (v := ?_) rfl (by kernel_rfl) (by kernel_rfl) (by kernel_rfl) (fun _ _ _ h => h) (Or.inl ⟨by rfl, ?_⟩) (by assumption) ?_; rotate_left 1; (focus (intro wz hz; (try dsimp only at hz); (try simp only [List.getElem_toArray, List.getElem_cons_succ, List.getElem_cons_zero]); go_simp; try (with_reducible rfl); done)))
        try simp only [Act.put, List.getElem_toArray, List.getElem_cons_succ, List.getElem_cons_zero, List.setIfInBounds_toArray, List.set_cons_zero, List.set_cons_succ]
        first | (refine wpAnyH_take (i := 13) (v := ?_) rfl (by kernel_rfl) (by kernel_rfl) (by kernel_rfl) (fun _ _ _ h => h) (Or.inl ⟨by rfl, ?_⟩) (by assumption) ?_; rotate_left 1; (focus (intro wz hz; (try dsimp only at hz); (try simp only [List.getElem_toArray, List.getElem_cons_succ, List.getElem_cons_zero]); go_simp; try (with_reducible rfl); done))) | (refine wpAnyH_take (i := 13) (v := undef) rfl (by kernel_rfl) (by kernel_rfl) (by kernel_rfl) (fun _ _ _ h => h) (Or.inr ⟨by rfl, rfl⟩) (by assumption) ?_)
        try simp only [Act.put, List.getElem_toArray, List.getElem_cons_succ, List.getElem_cons_zero, List.setIfInBounds_toArray, List.set_cons_zero, List.set_cons_succ]
        first | (refine wpAnyH_take (i := 14) (v := ?_) rfl (by kernel_rfl) (by kernel_rfl) (by kernel_rfl) (fun _ _ _ h => h) (Or.inl ⟨by rfl, ?_⟩) (by assumption) ?_; rotate_left 1; (focus (intro wz hz; (try dsimp only at hz); (try simp only [List.getElem_toArray, List.getElem_cons_succ, List.getElem_cons_zero]); go_simp; try (with_reducible rfl); done))) | (refine wpAnyH_take (i := 14) (v := undef) rfl (by kernel_rfl) (by kernel_rfl) (by kernel_rfl) (fun _ _ _ h => h) (Or.inr ⟨by rfl, rfl⟩) (by assumption) ?_)
        try simp only [Act.put, List.getElem_toArray, List.getElem_cons_succ, List.getElem_cons_zero, List.setIfInBounds_toArray, List.set_cons_zero, List.set_cons_succ]
        first | (refine wpAnyH_take (i := 15) (v := ?_) rfl (by kernel_rfl) (by kernel_rfl) (by kernel_rfl) (fun _ _ _ h => h) (Or.inl ⟨by rfl, ?_⟩) (by assumption) ?_; rotate_left 1; (focus (intro wz hz; (try dsimp only at hz); (try simp only [List.getElem_toArray, List.getElem_cons_succ, List.getElem_cons_zero]); go_simp; try (with_reducible rfl); done))) | (refine wpAnyH_take (i := 15) (v := undef) rfl (by kernel_rfl) (by kernel_rfl) (by kernel_rfl) (fun _ _ _ h => h) (Or.inr ⟨by rfl, rfl⟩) (by assumption) ?_)
        try simp only [Act.put, List.getElem_toArray, List.getElem_cons_succ, List.getElem_cons_zero, List.setIfInBounds_toArray, List.set_cons_zero, List.set_cons_succ]
        (refine wpAnyH_take (i := 16) (v := ?_) rfl (by kernel_rfl) (by kernel_rfl) (by kernel_rfl) (fun _ _ _ h => h) (Or.inl ⟨by rfl, ?_⟩) (by assumption) ?_; rotate_left 1; (focus (intro wz hz; (try dsimp only at hz); (try simp only [List.getElem_toArray, List.getElem_cons_succ, List.getElem_cons_zero]); go_simp; try (with_reducible rfl); done)))
        try simp only [Act.put, List.getElem_toArray, List.getElem_cons_succ, List.getElem_cons_zero, List.setIfInBounds_toArray, List.set_cons_zero, List.set_cons_succ]
        (refine wpAnyH_take (i := 17) (v := ?_) rfl (by kernel_rfl) (by kernel_rfl) (by kernel_rfl) (fun _ _ _ h => h) (Or.inl ⟨by rfl, ?_⟩) (by assumption) ?_; rotate_left 1; (focus (intro wz hz; (try dsimp only at hz); (try simp only [List.getElem_toArray, List.getElem_cons_succ, List.getElem_cons_zero]); go_simp; try (with_reducible rfl); done)))
        try simp only [Act.put, List.getElem_toArray, List.getElem_cons_succ, List.getElem_cons_zero, List.setIfInBounds_toArray, List.set_cons_zero, List.set_cons_succ]
        first | (refine wpAnyH_take (i := 18) (v := ?_) rfl (by kernel_rfl) (by kernel_rfl) (by kernel_rfl) (fun _ _ _ h => h) (Or.inl ⟨by rfl, ?_⟩) (by assumption) ?_; rotate_left 1; (focus (intro wz hz; (try dsimp only at hz); (try simp only [List.getElem_toArray, List.getElem_cons_succ, List.getElem_cons_zero]); go_simp; try (with_reducible rfl); done))) | (refine wpAnyH_take (i := 18) (v := undef) rfl (by kernel_rfl) (by kernel_rfl) (by kernel_rfl) (fun _ _ _ h => h) (Or.inr ⟨by rfl, rfl⟩) (by assumption) ?_)
        try simp only [Act.put, List.getElem_toArray, List.getElem_cons_succ, List.getElem_cons_zero, List.setIfInBounds_toArray, List.set_cons_zero, List.set_cons_succ]
        (refine wpAnyH_take (i := 19) (v := ?_) rfl (by kernel_rfl) (by kernel_rfl) (by kernel_rfl) (fun _ _ _ h => h) (Or.inl ⟨by rfl, ?_⟩) (by assumption) ?_; rotate_left 1; (focus (intro wz hz; (try dsimp only at hz); (try simp only [List.getElem_toArray, List.getElem_cons_succ, List.getElem_cons_zero]); go_simp; try (with_reducible rfl); done)))
        try simp only [Act.put, List.getElem_toArray, List.getElem_cons_succ, List.getElem_cons_zero, List.setIfInBounds_toArray, List.set_cons_zero, List.set_cons_succ]
        (refine wpAnyH_take (i := 20) (v := ?_) rfl (by kernel_rfl) (by kernel_rfl) (by kernel_rfl) (fun _ _ _ h => h) (Or.inl ⟨by rfl, ?_⟩) (by assumption) ?_; rotate_left 1; (focus (intro wz hz; (try dsimp only at hz); (try simp only [List.getElem_toArray, List.getElem_cons_succ, List.getElem_cons_zero]); go_simp; try (with_reducible rfl); done)))
        try simp only [Act.put, List.getElem_toArray, List.getElem_cons_succ, List.getElem_cons_zero, List.setIfInBounds_toArray, List.set_cons_zero, List.set_cons_succ]
        first | (refine wpAnyH_take (i := 21) (v := ?_) rfl (by kernel_rfl) (by kernel_rfl) (by kernel_rfl) (fun _ _ _ h => h) (Or.inl ⟨by rfl, ?_⟩) (by assumption) ?_; rotate_left 1; (focus (intro wz hz; (try dsimp only at hz); (try simp only [List.getElem_toArray, List.getElem_cons_succ, List.getElem_cons_zero]); go_simp; try (with_reducible rfl); done))) | (refine wpAnyH_take (i := 21) (v := undef) rfl (by kernel_rfl) (by kernel_rfl) (by kernel_rfl) (fun _ _ _ h => h) (Or.inr ⟨by rfl, rfl⟩) (by assumption) ?_)
        try simp only [Act.put, List.getElem_toArray, List.getElem_cons_succ, List.getElem_cons_zero, List.setIfInBounds_toArray, List.set_cons_zero, List.set_cons_succ]
        first | (refine wpAnyH_take (i := 22) (v := ?_) rfl (by kernel_rfl) (by kernel_rfl) (by kernel_rfl) (fun _ _ _ h => h) (Or.inl ⟨by rfl, ?_⟩) (by assumption) ?_; rotate_left 1; (focus (intro wz hz; (try dsimp only at hz); (try simp only [List.getElem_toArray, List.getElem_cons_succ, List.getElem_cons_zero]); go_simp; try (with_reducible rfl); done))) | (refine wpAnyH_take (i := 22) (v := undef) rfl (by kernel_rfl) (by kernel_rfl) (by kernel_rfl) (fun _ _ _ h => h) (Or.inr ⟨by rfl, rfl⟩) (by assumption) ?_)
        try simp only [Act.put, List.getElem_toArray, List.getElem_cons_succ, List.getElem_cons_zero, List.setIfInBounds_toArray, List.set_cons_zero, List.set_cons_succ]
        (refine wpAnyH_take (i := 23) (v := ?_) rfl (by kernel_rfl) (by kernel_rfl) (by kernel_rfl) (fun _ _ _ h => h) (Or.inl ⟨by rfl, ?_⟩) (by assumption) ?_; rotate_left 1; (focus (intro wz hz; (try dsimp only at hz); (try simp only [List.getElem_toArray, List.getElem_cons_succ, List.getElem_cons_zero]); go_simp; try (with_reducible rfl); done)))
        try simp only [Act.put, List.getElem_toArray, List.getElem_cons_succ, List.getElem_cons_zero, List.setIfInBounds_toArray, List.set_cons_zero, List.set_cons_succ]
        (refine wpAnyH_take (i := 24) (v := ?_) rfl (by kernel_rfl) (by kernel_rfl) (by kernel_rfl) (fun _ _ _ h => h) (Or.inl ⟨by rfl, ?_⟩) (by assumption) ?_; rotate_left 1; (focus (intro wz hz; (try dsimp only at hz); (try simp only [List.getElem_toArray, List.getElem_cons_succ, List.getElem_cons_zero]); go_simp; try (with_reducible rfl); done)))
        try simp only [Act.put, List.getElem_toArray, List.getElem_cons_succ, List.getElem_cons_zero, List.setIfInBounds_toArray, List.set_cons_zero, List.set_cons_succ]
        first | (refine wpAnyH_take (i := 25) (v := ?_) rfl (by kernel_rfl) (by kernel_rfl) (by kernel_rfl) (fun _ _ _ h => h) (Or.inl ⟨by rfl, ?_⟩) (by assumption) ?_; rotate_left 1; (focus (intro wz hz; (try dsimp only at hz); (try simp only [List.getElem_toArray, List.getElem_cons_succ, List.getElem_cons_zero]); go_simp; try (with_reducible rfl); done))) | (refine wpAnyH_take (i := 25) (v := undef) rfl (by kernel_rfl) (by kernel_rfl) (by kernel_rfl) (fun _ _ _ h => h) (Or.inr ⟨by rfl, rfl⟩) (by assumption) ?_)
        try simp only [Act.put, List.getElem_toArray, List.getElem_cons_succ, List.getElem_cons_zero, List.setIfInBounds_toArray, List.set_cons_zero, List.set_cons_succ]
        first | (refine wpAnyH_take (i := 27) (v := ?_) rfl (by kernel_rfl) (by kernel_rfl) (by kernel_rfl) (fun _ _ _ h => h) (Or.inl ⟨by rfl, ?_⟩) (by assumption) ?_; rotate_left 1; (focus (intro wz hz; (try dsimp only at hz); (try simp only [List.getElem_toArray, List.getElem_cons_succ, List.getElem_cons_zero]); go_simp; try (with_reducible rfl); done))) | (refine wpAnyH_take (i := 27) (v := undef) rfl (by kernel_rfl) (by kernel_rfl) (by kernel_rfl) (fun _ _ _ h => h) (Or.inr ⟨by rfl, rfl⟩) (by assumption) ?_)
        try simp only [Act.put, List.getElem_toArray, List.getElem_cons_succ, List.getElem_cons_zero, List.setIfInBounds_toArray, List.set_cons_zero, List.set_cons_succ]
        (refine wpAnyH_ready (rs := [26]) (by kernel_rfl) (by simp) ?_; refine AllReadyH.cons rfl (fun K hK => ?_) AllReadyH.nil; (try simp only [List.getElem_toArray, List.getElem_cons_succ, List.getElem_cons_zero]); go_simp; go_at_call 24; refine (uy _ _ _ (J2.out.call (by assumption))).mono ?_; rintro e wn26 ⟨rfl, hbn26⟩; have hTn26 := Fr.call (by assumption) hbn26; (try (go_wp2_with fail)); refine hK.out _ _ (hout _ (by assumption)) (fun hHeld => ?_); clear hK K)
        try simp only [Act.put, List.getElem_toArray, List.getElem_cons_succ, List.getElem_cons_zero, List.setIfInBounds_toArray, List.set_cons_zero, List.set_cons_succ]
        (refine wpAnyH_ready (rs := [28]) (by kernel_rfl) (by simp) ?_; refine AllReadyH.cons rfl (fun K hK => ?_) AllReadyH.nil; (try simp only [List.getElem_toArray, List.getElem_cons_succ, List.getElem_cons_zero]); go_simp; go_at_call 24; refine (us _ _ _ (J0.out.call (by assumption))).mono ?_; rintro e wn28 ⟨rfl, hbn28⟩; have hTn28 := Fr.call (by assumption) hbn28; (try (go_wp2_with fail)); refine hK.out _ _ (hout _ (by assumption)) (fun hHeld => ?_); clear hK K)
        try simp only [Act.put, List.getElem_toArray, List.getElem_cons_succ, List.getElem_cons_zero, List.setIfInBounds_toArray, List.set_cons_zero, List.set_cons_succ]
        first | (refine wpAnyH_take (i := 29) (v := ?_) rfl (by kernel_rfl) (by kernel_rfl) (by kernel_rfl) (fun _ _ _ h => h) (Or.inl ⟨by rfl, ?_⟩) (by assumption) ?_; rotate_left 1; (focus (intro wz hz; (try dsimp only at hz); (try simp only [List.getElem_toArray, List.getElem_cons_succ, List.getElem_cons_zero]); go_simp; try (with_reducible rfl); done))) | (refine wpAnyH_take (i := 29) (v := undef) rfl (by kernel_rfl) (by kernel_rfl) (by kernel_rfl) (fun _ _ _ h => h) (Or.inr ⟨by rfl, rfl⟩) (by assumption) ?_)
        try simp only [Act.put, List.getElem_toArray, List.getElem_cons_succ, List.getElem_cons_zero, List.setIfInBounds_toArray, List.set_cons_zero, List.set_cons_succ]
        (refine wpAnyH_take (i := 30) (v := ?_) rfl (by kernel_rfl) (by kernel_rfl) (by kernel_rfl) (fun _ _ _ h => h) (Or.inl ⟨by rfl, ?_⟩) (by assumption) ?_; rotate_left 1; (focus (intro wz hz; (try dsimp only at hz); (try simp only [List.getElem_toArray, List.getElem_cons_succ, List.getElem_cons_zero]); go_simp; try (with_reducible rfl); done)))
        try simp only [Act.put, List.getElem_toArray, List.getElem_cons_succ, List.getElem_cons_zero, List.setIfInBounds_toArray, List.set_cons_zero, List.set_cons_succ]
        (refine wpAnyH_take (i := 31) (v := ?_) rfl (by kernel_rfl) (by kernel_rfl) (by kernel_rfl) (fun _ _ _ h => h) (Or.inl ⟨by rfl, ?_⟩) (by assumption) ?_; rotate_left 1; (focus (intro wz hz; (try dsimp only at hz); (try simp only [List.getElem_toArray, List.getElem_cons_succ, List.getElem_cons_zero]); go_simp; try (with_reducible rfl); done)))
        try simp only [Act.put, List.getElem_toArray, List.getElem_cons_succ, List.getElem_cons_zero, List.setIfInBounds_toArray, List.set_cons_zero, List.set_cons_succ]
        first | (refine wpAnyH_take (i := 32) (v := ?_) rfl (by kernel_rfl) (by kernel_rfl) (by kernel_rfl) (fun _ _ _ h => h) (Or.inl ⟨by rfl, ?_⟩) (by assumption) ?_; rotate_left 1; (focus (intro wz hz; (try dsimp only at hz); (try simp only [List.getElem_toArray, List.getElem_cons_succ, List.getElem_cons_zero]); go_simp; try (with_reducible rfl); done))) | (refine wpAnyH_take (i := 32) (v := undef) rfl (by kernel_rfl) (by kernel_rfl) (by kernel_rfl) (fun _ _ _ h => h) (Or.inr ⟨by rfl, rfl⟩) (by assumption) ?_)
        try simp only [Act.put, List.getElem_toArray, List.getElem_cons_succ, List.getElem_cons_zero, List.setIfInBounds_toArray, List.set_cons_zero, List.set_cons_succ]
        first | (refine wpAnyH_take (i := 34) (v := ?_) rfl (by kernel_rfl) (by kernel_rfl) (by kernel_rfl) (fun _ _ _ h => h) (Or.inl ⟨by rfl, ?_⟩) (by assumption) ?_; rotate_left 1; (focus (intro wz hz; (try dsimp only at hz); (try simp only [List.getElem_toArray, List.getElem_cons_succ, List.getElem_cons_zero]); go_simp; try (with_reducible rfl); done))) | (refine wpAnyH_take (i := 34) (v := undef) rfl (by kernel_rfl) (by kernel_rfl) (by kernel_rfl) (fun _ _ _ h => h) (Or.inr ⟨by rfl, rfl⟩) (by assumption) ?_)
        try simp only [Act.put, List.getElem_toArray, List.getElem_cons_succ, List.getElem_cons_zero, List.setIfInBounds_toArray, List.set_cons_zero, List.set_cons_succ]
        (refine wpAnyH_ready (rs := [33]) (by kernel_rfl) (by simp) ?_; refine AllReadyH.cons rfl (fun K hK => ?_) AllReadyH.nil; (try simp only [List.getElem_toArray, List.getElem_cons_succ, List.getElem_cons_zero]); go_simp; go_at_call 24; refine (uz _ _ _ (J3.out.call (by assumption))).mono ?_; rintro e wn33 ⟨rfl, hbn33⟩; have hTn33 := Fr.call (by assumption) hbn33; (try (go_wp2_with fail)); refine hK.out _ _ (hout _ (by assumption)) (fun hHeld => ?_); clear hK K)
        try simp only [Act.put, List.getElem_toArray, List.getElem_cons_succ, List.getElem_cons_zero, List.setIfInBounds_toArray, List.set_cons_zero, List.set_cons_succ]
        (refine wpAnyH_ready (rs := [35]) (by kernel_rfl) (by simp) ?_; refine AllReadyH.cons rfl (fun K hK => ?_) AllReadyH.nil; (try simp only [List.getElem_toArray, List.getElem_cons_succ, List.getElem_cons_zero]); go_simp; go_at_call 24; refine (ux _ _ _ (J1.out.call (by assumption))).mono ?_; rintro e wn35 ⟨rfl, hbn35⟩; have hTn35 := Fr.call (by assumption) hbn35; (try (go_wp2_with fail)); refine hK.out _ _ (hout _ (by assumption)) (fun hHeld => ?_); clear hK K)
        try simp only [Act.put, List.getElem_toArray, List.getElem_cons_succ, List.getElem_cons_zero, List.setIfInBounds_toArray, List.set_cons_zero, List.set_cons_succ]
        first | (refine wpAnyH_take (i := 36) (v := ?_) rfl (by kernel_rfl) (by kernel_rfl) (by kernel_rfl) (fun _ _ _ h => h) (Or.inl ⟨by rfl, ?_⟩) (by assumption) ?_; rotate_left 1; (focus (intro wz hz; (try dsimp only at hz); (try simp only [List.getElem_toArray, List.getElem_cons_succ, List.getElem_cons_zero]); go_simp; try (with_reducible rfl); done))) | (refine wpAnyH_take (i := 36) (v := undef) rfl (by kernel_rfl) (by kernel_rfl) (by kernel_rfl) (fun _ _ _ h => h) (Or.inr ⟨by rfl, rfl⟩) (by assumption) ?_)
        try simp only [Act.put, List.getElem_toArray, List.getElem_cons_succ, List.getElem_cons_zero, List.setIfInBounds_toArray, List.set_cons_zero, List.set_cons_succ]
        (refine wpAnyH_take (i := 37) (v := ?_) rfl (by kernel_rfl) (by kernel_rfl) (by kernel_rfl) (fun _ _ _ h => h) (Or.inl ⟨by rfl, ?_⟩) (by assumption) ?_; rotate_left 1; (focus (intro wz hz; (try dsimp only at hz); (try simp only [List.getElem_toArray, List.getElem_cons_succ, List.getElem_cons_zero]); go_simp; try (with_reducible rfl); done)))
        try simp only [Act.put, List.getElem_toArray, List.getElem_cons_succ, List.getElem_cons_zero, List.setIfInBounds_toArray, List.set_cons_zero, List.set_cons_succ]
        (refine wpAnyH_take (i := 38) (v := ?_) rfl (by kernel_rfl) (by kernel_rfl) (by kernel_rfl) (fun _ _ _ h => h) (Or.inl ⟨by rfl, ?_⟩) (by assumption) ?_; rotate_left 1; (focus (intro wz hz; (try dsimp only at hz); (try simp only [List.getElem_toArray, List.getElem_cons_succ, List.getElem_cons_zero]); go_simp; try (with_reducible rfl); done)))
        try simp only [Act.put, List.getElem_toArray, List.getElem_cons_succ, List.getElem_cons_zero, List.setIfInBounds_toArray, List.set_cons_zero, List.set_cons_succ]
        (refine wpAnyH_ready (rs := [39]) (by kernel_rfl) (by simp) ?_; refine AllReadyH.cons rfl (fun K hK => ?_) AllReadyH.nil; (try simp only [List.getElem_toArray, List.getElem_cons_succ, List.getElem_cons_zero]); go_simp; go_at_call 8; refine (awake_any _).mono ?_; rintro e wn39 ⟨rfl, hbn39⟩; have hTn39 := Fr.call (by assumption) hbn39; (try (go_wp2_with fail)); refine hK.out _ _ (hout _ (by assumption)) (fun hHeld => ?_); clear hK K)
        try simp only [Act.put, List.getElem_toArray, List.getElem_cons_succ, List.getElem_cons_zero, List.setIfInBounds_toArray, List.set_cons_zero, List.set_cons_succ]
        (refine wpAnyH_take (i := 40) (v := ?_) rfl (by kernel_rfl) (by kernel_rfl) (by kernel_rfl) (fun _ _ _ h => h) (Or.inl ⟨by rfl, ?_⟩) (by assumption) ?_; rotate_left 1; (focus (intro wz hz; (try dsimp only at hz); (try simp only [List.getElem_toArray, List.getElem_cons_succ, List.getElem_cons_zero]); go_simp; try (with_reducible rfl); done)))
        try simp only [Act.put, List.getElem_toArray, List.getElem_cons_succ, List.getElem_cons_zero, List.setIfInBounds_toArray, List.set_cons_zero, List.set_cons_succ]
        (refine wpAnyH_take (i := 41) (v := ?_) rfl (by kernel_rfl) (by kernel_rfl) (by kernel_rfl) (fun _ _ _ h => h) (Or.inl ⟨by rfl, ?_⟩) (by assumption) ?_; rotate_left 1; (focus (intro wz hz; (try dsimp only at hz); (try simp only [List.getElem_toArray, List.getElem_cons_succ, List.getElem_cons_zero]); go_simp; try (with_reducible rfl); done)))
        try simp only [Act.put, List.getElem_toArray, List.getElem_cons_succ, List.getElem_cons_zero, List.setIfInBounds_toArray, List.set_cons_zero, List.set_cons_succ]
        refine wpAnyH_done (by kernel_rfl) ?_ _
        go_wp2
        go_ret
        refine ⟨rfl, Fr.fin HB.out ?_⟩
        assumption

set_option maxRecDepth 100000 in
theorem pback_lifted (os : Os) (started : os.Started) (H : Type) (enc : TypeId × Value → H) :
    ReturnsInHanded {} Try.checked os 6 .any (Rows.poolBackSpec.pre6 enc Try.prog Try.f6 Rows.poolBackRow.domain false) (Rows.poolBackSpec.post enc Try.prog Try.f6 false true false false) := by
  refine returnsInHanded_of_change (C := Try.checked) own started (by kernel_rfl) Try.func6
    (ChangeSpec.witness6 (enc := enc) (C := Try.checked) false ⟨#[], #[.int .u8 0, .int .u8 0, .int .i64 0], []⟩ 8 (by kernel_rfl) (by kernel_rfl) (by kernel_rfl) (by kernel_rfl)) ?_
  intro W base args ds gs before hval0 hW hcnd _
  have hval : ∀ (j : Nat) t v, Try.f6.params[j]? = some t → args[j]? = some v → Value.okWide Try.prog W .any base t v := hval0
  have hW' := hW
  obtain ⟨p, q, hA0, hV, rfl, hfz, hnd⟩ := hW
  have hA : DataW.TrodAll enc Try.prog W 0 (fun _ => true) true Try.f6.params.toList args.toList ds p := hA0
  rw [Try.params6] at hA hval
  obtain ⟨v0, vs0, d0, ds0, p0, q0, hargs, rfl, rfl, h0, r0⟩ := trodAll_cons hA
  obtain ⟨v1, vs1, d1, ds1, p1, q1, rfl, rfl, rfl, h1, r1⟩ := trodAll_cons r0
  obtain ⟨v2, vs2, d2, ds2, p2, q2, rfl, rfl, rfl, h2, r2⟩ := trodAll_cons r1
  obtain ⟨rfl, rfl, rfl⟩ := trodAll_nil r2
  obtain rfl : args = #[v0, v1, v2] := by cases args; simp_all
  obtain ⟨rfl, rfl⟩ := trodVars_none hV
  obtain ⟨c, rfl, rfl, rfl, wc⟩ := open_int Try.underlying5 (hval 0 5 v0 rfl rfl) h0
  obtain ⟨a, rfl, rfl, rfl, wa⟩ := open_int Try.underlying5 (hval 1 5 v1 rfl rfl) h1
  obtain ⟨v, rfl, rfl, rfl, _⟩ := open_int Try.underlying3 (hval 2 3 v2 rfl rfl) h2
  have bc := bounds_u8 wc
  have ba := bounds_u8 wa
  refine (pback_walk c a v W (by omega) (by omega) (by omega) (by omega)).mono fun e W' ⟨he, hb⟩ => ?_
  subst he
  exact ⟨_, rfl, law_post rfl rfl Try.underlying4 (by kernel_rfl) rfl hW' hb⟩
theorem pback_holds : Rows.PoolBackSaid :=
  OpenClaim.holds_of_wide 6 Try.f6 rfl rfl rfl rfl rfl rfl rfl ⟨rfl, rfl, rfl, rfl, rfl⟩ rfl rfl rfl rfl rfl (by kernel_rfl) Try.func6 (by kernel_rfl)
    (of_decide_eq_true (by kernel_rfl)) (by unfold Func.isWrapper; first | (rw [if_pos (by decide +kernel)]; kernel_rfl) | (rw [if_neg (by decide +kernel)]; exact ⟨rfl, rfl⟩))
    (fun os started H enc _ => pback_lifted os started H enc)
end Go.Proofs.Ytmnlpmfkoammhaa
