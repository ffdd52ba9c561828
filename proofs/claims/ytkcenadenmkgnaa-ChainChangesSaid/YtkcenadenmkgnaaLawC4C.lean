/- ChainChanges: a place that is put behind a list, and taken out, a list that is turned, and one that is put behind another one, leave any state, and are answered, as the document says; what comes in stays: the statement holds for every input. No condition. -/
import Derived.Test.YtkcenadenmkgnaaLawKit
import Derived.Test.YtkcenadenmkgnaaLawOpenI
import Derived.Test.YtkcenadenmkgnaaLawOpenT
import Derived.Test.YtkcenadenmkgnaaC9N
import Derived.Test.YtkcenadenmkgnaaC9U
import Derived.Test.YtkcenadenmkgnaaC9V
import Derived.Test.YtkcenadenmkgnaaC9X
import Derived.Test.YtkcenadenmkgnaaC8M
import Derived.Deep.RegionHeld3
namespace Go.Proofs.Ytkcenadenmkgnaa
open Go.RowKit Go.ChangeShapes Go.WideShapes Go.ChangeAt
set_option linter.unusedVariables false
set_option linter.unusedSimpArgs false

theorem few_yes2 {st : LSt} (h : fewB st = true) : st.1.length ≤ 70 ∧ st.2.1.length ≤ 20 ∧ st.2.2.length ≤ 20 := by
  unfold fewB at h
  rw [Bool.and_eq_true, Bool.and_eq_true, decide_eq_true_iff, decide_eq_true_iff, decide_eq_true_iff] at h
  exact ⟨h.1.1, h.1.2, h.2⟩
theorem sameLB_self2 (a : LSt) : sameLB a a = true := by unfold sameLB; simp [sameIB]
theorem unlS_len (st : LSt) (a : Int) : (unlS st a).1.length = st.1.length ∧ (unlS st a).2.1.length = st.2.1.length ∧ (unlS st a).2.2.length = st.2.2.length := by
  unfold unlS
  split
  · exact outP_len _ _
  · exact ⟨rfl, rfl, rfl⟩
theorem splFs_len (j : Nat) : ∀ (L : List Int) (s : LSt), (L.foldl (splF j) s).1.length = s.1.length ∧ (L.foldl (splF j) s).2.1.length = s.2.1.length ∧ (L.foldl (splF j) s).2.2.length = s.2.2.length
  | [], s => ⟨rfl, rfl, rfl⟩
  | x :: L, s => by
    rw [List.foldl_cons]
    obtain ⟨a1, a2, a3⟩ := splFs_len j L (splF j s x)
    obtain ⟨b1, b2, b3⟩ := splF_len j s x
    exact ⟨a1.trans b1, a2.trans b2, a3.trans b3⟩
theorem splS_len (st : LSt) (i j : Int) : (splS st i j).1.length = st.1.length ∧ (splS st i j).2.1.length = st.2.1.length ∧ (splS st i j).2.2.length = st.2.2.length := by
  unfold splS
  split
  · exact splFs_len _ _ _
  · exact ⟨rfl, rfl, rfl⟩

set_option maxRecDepth 100000 in
set_option maxHeartbeats 16000000 in
theorem cchanges_walk (vn vh vt : Value) (st : LSt) (i a : Int) (w : World) (hv : IsLS w vn vh vt st) :
    Calls Try.prog 3 #[.agg #[vn, vh, vt], .int .i64 i, .int .i64 a] w fun e w' => e = .returned (.bool true) ∧ Below w.heap.size w w' := by
  have S0 := Lib.hid hv
  obtain ⟨⟨p0, c0, rfl, -⟩, ⟨p1, c1', rfl, -⟩, ⟨p2, c2', rfl, -⟩⟩ := hv
  have c1 := fun W (hb : Below w.heap.size w W) => few_any _ _ _ st W (S0.out.call hb)
  cases hfew : fewB st
  · rw [hfew] at c1
    clear hfew
    go_enter Try.func3, Try.ntmps3
    go_wp2_with fail
    refine (c1 _ (by (repeat (first | (with_reducible exact Below.refl _ _) | ((with_reducible refine below_alloc ?_ ?_ _); · (first | omega | (simp; done) | (simp; omega))) | ((with_reducible refine below_setCell ?_ ?_ _); · (first | omega | (simp; done) | (simp; omega))) | (with_reducible refine Below.drew ?_) | (with_reducible refine below_drewN ?_ _) | ((with_reducible refine below_call (by assumption) ?_ ?_); · (first | omega | (simp; done) | (simp; omega))))))).mono ?_; rintro e w1 ⟨rfl, hb1⟩
    obtain ⟨hk1, hf1, hz1⟩ := bcellN (n := w.heap.size + 1) (by (try simp only [World.size_drew, World.size_alloc, World.size_setCell]); omega) hb1; have hz1_0 : w.heap.size < w1.heap.size := (by omega)
    go_wp2_with fail
    refine (awake_any _).mono ?_; rintro e w2 ⟨rfl, hb2⟩
    obtain ⟨hk2, hf2, hz2⟩ := bcellN (n := w.heap.size + 1) (by (try simp only [World.size_drew, World.size_alloc, World.size_setCell]); omega) hb2; have hz2_0 : w.heap.size < w2.heap.size := (by omega)
    go_wp2_with fail
    go_ret
    exact ⟨rfl, by (repeat (first | (with_reducible exact Below.refl _ _) | ((with_reducible refine below_alloc ?_ ?_ _); · (first | omega | (simp; done) | (simp; omega))) | ((with_reducible refine below_setCell ?_ ?_ _); · (first | omega | (simp; done) | (simp; omega))) | (with_reducible refine Below.drew ?_) | (with_reducible refine below_drewN ?_ _) | ((with_reducible refine below_call (by assumption) ?_ ?_); · (first | omega | (simp; done) | (simp; omega)))))⟩
  rw [hfew] at c1
  obtain ⟨l1, l2, l3⟩ := few_yes2 hfew
  obtain ⟨m1, m2, m3⟩ := push_len st i a
  obtain ⟨m4, m5, m6⟩ := unlS_len st a
  obtain ⟨m7, m8, m9⟩ := splS_len st i a
  obtain ⟨n1, n2, n3⟩ := turn_len st i
  have c2 := fun W (hb : Below w.heap.size w W) => own4_any _ _ _ st W (S0.out.call hb) (by omega)
  have c3 := Lib.hid (fun vn vh vt W (hv : IsLS W vn vh vt st) => push_any vn vh vt st i a W hv (by omega) (by omega) (by omega))
  have c4 := Lib.hid (fun vn vh vt W (hv : IsLS W vn vh vt st) => refpush_any vn vh vt st i a W hv (by omega) (by omega) (by omega))
  have c5 := Lib.hid (fun vn vh vt W (hv : IsLS W vn vh vt st) => unlink_any vn vh vt st a W hv (by omega) (by omega) (by omega))
  have c6 := Lib.hid (fun vn vh vt W (hv : IsLS W vn vh vt st) => refunl_any vn vh vt st a W hv (by omega) (by omega) (by omega))
  have c7 := Lib.hid (fun vn vh vt W (hv : IsLS W vn vh vt st) => splice_any vn vh vt st i a W hv (by omega) (by omega) (by omega))
  have c8 := Lib.hid (fun vn vh vt W (hv : IsLS W vn vh vt st) => refspl_any vn vh vt st i a W hv (by omega) (by omega) (by omega))
  have e7 := Lib.hid (fun vn vh vt W (hv : IsLS W vn vh vt st) => turn_any vn vh vt st i W hv (by omega) (by omega) (by omega))
  have e9 := Lib.hid (fun vn vh vt W (hv : IsLS W vn vh vt st) => refturn_any vn vh vt st i W hv (by omega) (by omega) (by omega))
  generalize pushS st i a = P at *
  generalize pushE st i a = PE at *
  generalize unlS st a = U at *
  generalize unlE st a = UE at *
  generalize splS st i a = Q at *
  generalize splE st i a = QE at *
  generalize turnS st i = R at *
  have e1 := Lib.hid (fun vn vh vt W (hv : IsLS W vn vh vt P) => back4_any vn vh vt P W hv (by omega))
  have e2 := fun vn vh vt un uh ut W (hv : IsLS W vn vh vt P) (hu : IsLS W un uh ut P) => refsame4_any vn vh vt un uh ut P P W hv hu (by omega) (by omega) (by omega) (by omega)
  rw [sameLB_self2] at e2
  replace e2 := Lib.hid e2
  have e3 := Lib.hid (fun vn vh vt W (hv : IsLS W vn vh vt U) => back4_any vn vh vt U W hv (by omega))
  have e4 := fun vn vh vt un uh ut W (hv : IsLS W vn vh vt U) (hu : IsLS W un uh ut U) => refsame4_any vn vh vt un uh ut U U W hv hu (by omega) (by omega) (by omega) (by omega)
  rw [sameLB_self2] at e4
  replace e4 := Lib.hid e4
  have e5 := Lib.hid (fun vn vh vt W (hv : IsLS W vn vh vt Q) => back4_any vn vh vt Q W hv (by omega))
  have e6 := fun vn vh vt un uh ut W (hv : IsLS W vn vh vt Q) (hu : IsLS W un uh ut Q) => refsame4_any vn vh vt un uh ut Q Q W hv hu (by omega) (by omega) (by omega) (by omega)
  rw [sameLB_self2] at e6
  replace e6 := Lib.hid e6
  have e8 := Lib.hid (fun vn vh vt W (hv : IsLS W vn vh vt R) => back4_any vn vh vt R W hv (by omega))
  have e10 := fun vn vh vt un uh ut W (hv : IsLS W vn vh vt R) (hu : IsLS W un uh ut R) => refsame4_any vn vh vt un uh ut R R W hv hu (by omega) (by omega) (by omega) (by omega)
  rw [sameLB_self2] at e10
  replace e10 := Lib.hid e10
  have e11 := Lib.hid (fun vn vh vt W (hv : IsLS W vn vh vt st) => back4_any vn vh vt st W hv (by omega))
  have e12 := fun vn vh vt un uh ut W (hv : IsLS W vn vh vt st) (hu : IsLS W un uh ut st) => refsame4_any vn vh vt un uh ut st st W hv hu (by omega) (by omega) (by omega) (by omega)
  rw [sameLB_self2] at e12
  replace e12 := Lib.hid e12
  clear hfew l1 l2 l3 m1 m2 m3 m4 m5 m6 m7 m8 m9 n1 n2 n3
  go_enter Try.func3, Try.ntmps3
  go_wp2_with fail
  refine (c1 _ (by (repeat (first | (with_reducible exact Below.refl _ _) | ((with_reducible refine below_alloc ?_ ?_ _); · (first | omega | (simp; done) | (simp; omega))) | ((with_reducible refine below_setCell ?_ ?_ _); · (first | omega | (simp; done) | (simp; omega))) | (with_reducible refine Below.drew ?_) | (with_reducible refine below_drewN ?_ _) | ((with_reducible refine below_call (by assumption) ?_ ?_); · (first | omega | (simp; done) | (simp; omega))))))).mono ?_; rintro e w1 ⟨rfl, hb1⟩
  obtain ⟨hk1, hf1, hz1⟩ := bcellN (n := w.heap.size + 1) (by (try simp only [World.size_drew, World.size_alloc, World.size_setCell]); omega) hb1; have hz1_0 : w.heap.size < w1.heap.size := (by omega)
  have hs1 := hb1.size; (try simp only [World.size_alloc, World.size_setCell] at hs1)
  go_wp2_with fail
  refine (c2 _ (by (repeat (first | (with_reducible exact Below.refl _ _) | ((with_reducible refine below_alloc ?_ ?_ _); · (first | omega | (simp; done) | (simp; omega))) | ((with_reducible refine below_setCell ?_ ?_ _); · (first | omega | (simp; done) | (simp; omega))) | (with_reducible refine Below.drew ?_) | (with_reducible refine below_drewN ?_ _) | ((with_reducible refine below_call (by assumption) ?_ ?_); · (first | omega | (simp; done) | (simp; omega))))))).mono ?_; rintro e w2 ⟨vx, rfl, ox, hb2⟩
  obtain ⟨hk2, hf2, hz2⟩ := bcellN (n := w.heap.size + 1) (by (try simp only [World.size_drew, World.size_alloc, World.size_setCell]); omega) hb2; have hz2_0 : w.heap.size < w2.heap.size := (by omega)
  have hs2 := hb2.size
  obtain ⟨px, cx, rfl, -⟩ := id (OwnN.reads ox)
  have hB2 : Below w.heap.size w w2 := by (repeat (first | (with_reducible exact Below.refl _ _) | ((with_reducible refine below_alloc ?_ ?_ _); · (first | omega | (simp; done) | (simp; omega))) | ((with_reducible refine below_setCell ?_ ?_ _); · (first | omega | (simp; done) | (simp; omega))) | (with_reducible refine Below.drew ?_) | (with_reducible refine below_drewN ?_ _) | ((with_reducible refine below_call (by assumption) ?_ ?_); · (first | omega | (simp; done) | (simp; omega)))))
  have SX := Lib.hid (show IsLS w2 (.slice px st.1.length cx) (.slice p1 st.2.1.length c1') (.slice p2 st.2.2.length c2') st from ⟨OwnN.reads ox, (S0.out.call hB2).2⟩)
  have BX := Lib.hid (Bs.new SX.out 30)
  clear ox c1 c2 hB2 SX
  go_wp2_with fail
  refine (c3.out _ _ _ _ BX.out.s).mono ?_; rintro e w3 ⟨x3, y3, z3, rfl, o3, hb3⟩
  obtain ⟨hk3, hf3, hz3⟩ := bcellN (n := w.heap.size + 1) (by (try simp only [World.size_drew, World.size_alloc, World.size_setCell]); omega) hb3; have hz3_0 : w.heap.size < w3.heap.size := (by omega); obtain ⟨hk3w2, hf3w2, hz3w2⟩ := bcellAt (b := w2.heap.size) (by (try simp only [World.size_drew, World.size_alloc, World.size_setCell]); omega) hb3
  have hs3 := hb3.size; (try simp only [World.size_alloc, World.size_setCell] at hs3)
  replace BX := Lib.hid (BX.out.call hb3)
  have s3 := OutLS.reads (W := w) o3 BX.out.s
  clear o3
  obtain ⟨⟨pa0, pa3, rfl, -⟩, ⟨pa1, pa4, rfl, -⟩, ⟨pa2, pa5, rfl, -⟩⟩ := id s3
  have B3 := Lib.hid (Bs.new s3 30)
  clear s3 c3
  go_wp2_with fail
  refine (c4.out _ _ _ _ (S0.out.call (by (repeat (first | (with_reducible exact Below.refl _ _) | ((with_reducible refine below_alloc ?_ ?_ _); · (first | omega | (simp; done) | (simp; omega))) | ((with_reducible refine below_setCell ?_ ?_ _); · (first | omega | (simp; done) | (simp; omega))) | (with_reducible refine Below.drew ?_) | (with_reducible refine below_drewN ?_ _) | ((with_reducible refine below_call (by assumption) ?_ ?_); · (first | omega | (simp; done) | (simp; omega)))))))).mono ?_; rintro e w4 ⟨x4, y4, z4, rfl, o4, hb4⟩
  obtain ⟨hk4, hf4, hz4⟩ := bcellN (n := w.heap.size + 1) (by (try simp only [World.size_drew, World.size_alloc, World.size_setCell]); omega) hb4; have hz4_0 : w.heap.size < w4.heap.size := (by omega); obtain ⟨hk4w2, hf4w2, hz4w2⟩ := bcellAt (b := w2.heap.size) (by (try simp only [World.size_drew, World.size_alloc, World.size_setCell]); omega) hb4; obtain ⟨hk4w3, hf4w3, hz4w3⟩ := bcellAt (b := w3.heap.size) (by (try simp only [World.size_drew, World.size_alloc, World.size_setCell]); omega) hb4
  have hs4 := hb4.size; (try simp only [World.size_alloc, World.size_setCell] at hs4)
  replace BX := Lib.hid ((BX.out.call (Below.alloc (Below.refl _ _) (Nat.le_refl _) _)).call hb4)
  replace B3 := Lib.hid (B3.out.call hb4)
  have s4 := o4
  clear o4
  obtain ⟨⟨pb0, pb3, rfl, -⟩, ⟨pb1, pb4, rfl, -⟩, ⟨pb2, pb5, rfl, -⟩⟩ := id s4
  have B4 := Lib.hid (Bs.new s4 25)
  clear s4 c4
  go_wp2_with fail
  refine (c5.out _ _ _ _ (BX.out.call (Below.alloc (Below.refl _ _) (Nat.le_refl _) _)).s).mono ?_; rintro e w5 ⟨x5, y5, z5, rfl, o5, hb5⟩
  obtain ⟨hk5, hf5, hz5⟩ := bcellN (n := w.heap.size + 1) (by (try simp only [World.size_drew, World.size_alloc, World.size_setCell]); omega) hb5; have hz5_0 : w.heap.size < w5.heap.size := (by omega); obtain ⟨hk5w2, hf5w2, hz5w2⟩ := bcellAt (b := w2.heap.size) (by (try simp only [World.size_drew, World.size_alloc, World.size_setCell]); omega) hb5; obtain ⟨hk5w3, hf5w3, hz5w3⟩ := bcellAt (b := w3.heap.size) (by (try simp only [World.size_drew, World.size_alloc, World.size_setCell]); omega) hb5; obtain ⟨hk5w4, hf5w4, hz5w4⟩ := bcellAt (b := w4.heap.size) (by (try simp only [World.size_drew, World.size_alloc, World.size_setCell]); omega) hb5
  have hs5 := hb5.size; (try simp only [World.size_alloc, World.size_setCell] at hs5)
  replace BX := Lib.hid ((BX.out.call (Below.alloc (Below.refl _ _) (Nat.le_refl _) _)).call hb5)
  replace B3 := Lib.hid ((B3.out.call (Below.alloc (Below.refl _ _) (Nat.le_refl _) _)).call hb5)
  replace B4 := Lib.hid (B4.out.call hb5)
  have s5 := OutLS.reads (W := w) o5 BX.out.s
  clear o5
  obtain ⟨⟨ua0, ua3, rfl, -⟩, ⟨ua1, ua4, rfl, -⟩, ⟨ua2, ua5, rfl, -⟩⟩ := id s5
  have B5 := Lib.hid (Bs.new s5 30)
  clear s5 c5
  go_wp2_with fail
  refine (c6.out _ _ _ _ (S0.out.call (by (repeat (first | (with_reducible exact Below.refl _ _) | ((with_reducible refine below_alloc ?_ ?_ _); · (first | omega | (simp; done) | (simp; omega))) | ((with_reducible refine below_setCell ?_ ?_ _); · (first | omega | (simp; done) | (simp; omega))) | (with_reducible refine Below.drew ?_) | (with_reducible refine below_drewN ?_ _) | ((with_reducible refine below_call (by assumption) ?_ ?_); · (first | omega | (simp; done) | (simp; omega)))))))).mono ?_; rintro e w6 ⟨x6, y6, z6, rfl, o6, hb6⟩
  obtain ⟨hk6, hf6, hz6⟩ := bcellN (n := w.heap.size + 1) (by (try simp only [World.size_drew, World.size_alloc, World.size_setCell]); omega) hb6; have hz6_0 : w.heap.size < w6.heap.size := (by omega); obtain ⟨hk6w2, hf6w2, hz6w2⟩ := bcellAt (b := w2.heap.size) (by (try simp only [World.size_drew, World.size_alloc, World.size_setCell]); omega) hb6; obtain ⟨hk6w3, hf6w3, hz6w3⟩ := bcellAt (b := w3.heap.size) (by (try simp only [World.size_drew, World.size_alloc, World.size_setCell]); omega) hb6; obtain ⟨hk6w4, hf6w4, hz6w4⟩ := bcellAt (b := w4.heap.size) (by (try simp only [World.size_drew, World.size_alloc, World.size_setCell]); omega) hb6; obtain ⟨hk6w5, hf6w5, hz6w5⟩ := bcellAt (b := w5.heap.size) (by (try simp only [World.size_drew, World.size_alloc, World.size_setCell]); omega) hb6
  have hs6 := hb6.size; (try simp only [World.size_alloc, World.size_setCell] at hs6)
  replace BX := Lib.hid ((BX.out.call (Below.alloc (Below.refl _ _) (Nat.le_refl _) _)).call hb6)
  replace B3 := Lib.hid ((B3.out.call (Below.alloc (Below.refl _ _) (Nat.le_refl _) _)).call hb6)
  replace B4 := Lib.hid ((B4.out.call (Below.alloc (Below.refl _ _) (Nat.le_refl _) _)).call hb6)
  replace B5 := Lib.hid (B5.out.call hb6)
  have s6 := o6
  clear o6
  obtain ⟨⟨ub0, ub3, rfl, -⟩, ⟨ub1, ub4, rfl, -⟩, ⟨ub2, ub5, rfl, -⟩⟩ := id s6
  have B6 := Lib.hid (Bs.new s6 25)
  clear s6 c6
  go_wp2_with fail
  refine (c7.out _ _ _ _ (BX.out.call (Below.alloc (Below.refl _ _) (Nat.le_refl _) _)).s).mono ?_; rintro e w7 ⟨x7, y7, z7, rfl, o7, hb7⟩
  obtain ⟨hk7, hf7, hz7⟩ := bcellN (n := w.heap.size + 1) (by (try simp only [World.size_drew, World.size_alloc, World.size_setCell]); omega) hb7; have hz7_0 : w.heap.size < w7.heap.size := (by omega); obtain ⟨hk7w2, hf7w2, hz7w2⟩ := bcellAt (b := w2.heap.size) (by (try simp only [World.size_drew, World.size_alloc, World.size_setCell]); omega) hb7; obtain ⟨hk7w3, hf7w3, hz7w3⟩ := bcellAt (b := w3.heap.size) (by (try simp only [World.size_drew, World.size_alloc, World.size_setCell]); omega) hb7; obtain ⟨hk7w4, hf7w4, hz7w4⟩ := bcellAt (b := w4.heap.size) (by (try simp only [World.size_drew, World.size_alloc, World.size_setCell]); omega) hb7; obtain ⟨hk7w5, hf7w5, hz7w5⟩ := bcellAt (b := w5.heap.size) (by (try simp only [World.size_drew, World.size_alloc, World.size_setCell]); omega) hb7; obtain ⟨hk7w6, hf7w6, hz7w6⟩ := bcellAt (b := w6.heap.size) (by (try simp only [World.size_drew, World.size_alloc, World.size_setCell]); omega) hb7
  have hs7 := hb7.size; (try simp only [World.size_alloc, World.size_setCell] at hs7)
  replace BX := Lib.hid ((BX.out.call (Below.alloc (Below.refl _ _) (Nat.le_refl _) _)).call hb7)
  replace B3 := Lib.hid ((B3.out.call (Below.alloc (Below.refl _ _) (Nat.le_refl _) _)).call hb7)
  replace B4 := Lib.hid ((B4.out.call (Below.alloc (Below.refl _ _) (Nat.le_refl _) _)).call hb7)
  replace B5 := Lib.hid ((B5.out.call (Below.alloc (Below.refl _ _) (Nat.le_refl _) _)).call hb7)
  replace B6 := Lib.hid (B6.out.call hb7)
  have s7 := OutLS.reads (W := w) o7 BX.out.s
  clear o7
  obtain ⟨⟨qa0, qa3, rfl, -⟩, ⟨qa1, qa4, rfl, -⟩, ⟨qa2, qa5, rfl, -⟩⟩ := id s7
  have B7 := Lib.hid (Bs.new s7 30)
  clear s7 c7
  go_wp2_with fail
  refine (c8.out _ _ _ _ (S0.out.call (by (repeat (first | (with_reducible exact Below.refl _ _) | ((with_reducible refine below_alloc ?_ ?_ _); · (first | omega | (simp; done) | (simp; omega))) | ((with_reducible refine below_setCell ?_ ?_ _); · (first | omega | (simp; done) | (simp; omega))) | (with_reducible refine Below.drew ?_) | (with_reducible refine below_drewN ?_ _) | ((with_reducible refine below_call (by assumption) ?_ ?_); · (first | omega | (simp; done) | (simp; omega)))))))).mono ?_; rintro e w8 ⟨x8, y8, z8, rfl, o8, hb8⟩
  obtain ⟨hk8, hf8, hz8⟩ := bcellN (n := w.heap.size + 1) (by (try simp only [World.size_drew, World.size_alloc, World.size_setCell]); omega) hb8; have hz8_0 : w.heap.size < w8.heap.size := (by omega); obtain ⟨hk8w2, hf8w2, hz8w2⟩ := bcellAt (b := w2.heap.size) (by (try simp only [World.size_drew, World.size_alloc, World.size_setCell]); omega) hb8; obtain ⟨hk8w3, hf8w3, hz8w3⟩ := bcellAt (b := w3.heap.size) (by (try simp only [World.size_drew, World.size_alloc, World.size_setCell]); omega) hb8; obtain ⟨hk8w4, hf8w4, hz8w4⟩ := bcellAt (b := w4.heap.size) (by (try simp only [World.size_drew, World.size_alloc, World.size_setCell]); omega) hb8; obtain ⟨hk8w5, hf8w5, hz8w5⟩ := bcellAt (b := w5.heap.size) (by (try simp only [World.size_drew, World.size_alloc, World.size_setCell]); omega) hb8; obtain ⟨hk8w6, hf8w6, hz8w6⟩ := bcellAt (b := w6.heap.size) (by (try simp only [World.size_drew, World.size_alloc, World.size_setCell]); omega) hb8; obtain ⟨hk8w7, hf8w7, hz8w7⟩ := bcellAt (b := w7.heap.size) (by (try simp only [World.size_drew, World.size_alloc, World.size_setCell]); omega) hb8
  have hs8 := hb8.size; (try simp only [World.size_alloc, World.size_setCell] at hs8)
  replace BX := Lib.hid ((BX.out.call (Below.alloc (Below.refl _ _) (Nat.le_refl _) _)).call hb8)
  replace B3 := Lib.hid ((B3.out.call (Below.alloc (Below.refl _ _) (Nat.le_refl _) _)).call hb8)
  replace B4 := Lib.hid ((B4.out.call (Below.alloc (Below.refl _ _) (Nat.le_refl _) _)).call hb8)
  replace B5 := Lib.hid ((B5.out.call (Below.alloc (Below.refl _ _) (Nat.le_refl _) _)).call hb8)
  replace B6 := Lib.hid ((B6.out.call (Below.alloc (Below.refl _ _) (Nat.le_refl _) _)).call hb8)
  replace B7 := Lib.hid (B7.out.call hb8)
  have s8 := o8
  clear o8
  obtain ⟨⟨qb0, qb3, rfl, -⟩, ⟨qb1, qb4, rfl, -⟩, ⟨qb2, qb5, rfl, -⟩⟩ := id s8
  have B8 := Lib.hid (Bs.new s8 25)
  clear s8 c8
  go_wp2_with fail
  have hBW : Below w.heap.size w (w8.alloc (.cells #[.slice qb0 Q.1.length qb3, .slice qb1 Q.2.1.length qb4, .slice qb2 Q.2.2.length qb5] 25)) := by (repeat (first | (with_reducible exact Below.refl _ _) | ((with_reducible refine below_alloc ?_ ?_ _); · (first | omega | (simp; done) | (simp; omega))) | ((with_reducible refine below_setCell ?_ ?_ _); · (first | omega | (simp; done) | (simp; omega))) | (with_reducible refine Below.drew ?_) | (with_reducible refine below_drewN ?_ _) | ((with_reducible refine below_call (by assumption) ?_ ?_); · (first | omega | (simp; done) | (simp; omega)))))
  have J0 : Bs (w8.alloc (.cells #[.slice qb0 Q.1.length qb3, .slice qb1 Q.2.1.length qb4, .slice qb2 Q.2.2.length qb5] 25)) w.heap.size (.slice p0 st.1.length c0) (.slice p1 st.2.1.length c1') (.slice p2 st.2.2.length c2') st := ⟨⟨by simp [go_sem, *], by simp [go_sem, *], by simp [go_sem, *]⟩, fun o => by simp [go_sem, *], S0.out.call hBW⟩
  have J1 : Bs (w8.alloc (.cells #[.slice qb0 Q.1.length qb3, .slice qb1 Q.2.1.length qb4, .slice qb2 Q.2.2.length qb5] 25)) w2.heap.size (.slice px st.1.length cx) (.slice p1 st.2.1.length c1') (.slice p2 st.2.2.length c2') st := BX.out.call (Below.alloc (Below.refl _ _) (Nat.le_refl _) _)
  have J2 : Bs (w8.alloc (.cells #[.slice qb0 Q.1.length qb3, .slice qb1 Q.2.1.length qb4, .slice qb2 Q.2.2.length qb5] 25)) w3.heap.size (.slice pa0 P.1.length pa3) (.slice pa1 P.2.1.length pa4) (.slice pa2 P.2.2.length pa5) P := B3.out.call (Below.alloc (Below.refl _ _) (Nat.le_refl _) _)
  have J3 : Bs (w8.alloc (.cells #[.slice qb0 Q.1.length qb3, .slice qb1 Q.2.1.length qb4, .slice qb2 Q.2.2.length qb5] 25)) w4.heap.size (.slice pb0 P.1.length pb3) (.slice pb1 P.2.1.length pb4) (.slice pb2 P.2.2.length pb5) P := B4.out.call (Below.alloc (Below.refl _ _) (Nat.le_refl _) _)
  have J4 : Bs (w8.alloc (.cells #[.slice qb0 Q.1.length qb3, .slice qb1 Q.2.1.length qb4, .slice qb2 Q.2.2.length qb5] 25)) w5.heap.size (.slice ua0 U.1.length ua3) (.slice ua1 U.2.1.length ua4) (.slice ua2 U.2.2.length ua5) U := B5.out.call (Below.alloc (Below.refl _ _) (Nat.le_refl _) _)
  have J5 : Bs (w8.alloc (.cells #[.slice qb0 Q.1.length qb3, .slice qb1 Q.2.1.length qb4, .slice qb2 Q.2.2.length qb5] 25)) w6.heap.size (.slice ub0 U.1.length ub3) (.slice ub1 U.2.1.length ub4) (.slice ub2 U.2.2.length ub5) U := B6.out.call (Below.alloc (Below.refl _ _) (Nat.le_refl _) _)
  have J6 : Bs (w8.alloc (.cells #[.slice qb0 Q.1.length qb3, .slice qb1 Q.2.1.length qb4, .slice qb2 Q.2.2.length qb5] 25)) w7.heap.size (.slice qa0 Q.1.length qa3) (.slice qa1 Q.2.1.length qa4) (.slice qa2 Q.2.2.length qa5) Q := B7.out.call (Below.alloc (Below.refl _ _) (Nat.le_refl _) _)
  have J7 : Bs (w8.alloc (.cells #[.slice qb0 Q.1.length qb3, .slice qb1 Q.2.1.length qb4, .slice qb2 Q.2.2.length qb5] 25)) w8.heap.size (.slice qb0 Q.1.length qb3) (.slice qb1 Q.2.1.length qb4) (.slice qb2 Q.2.2.length qb5) Q := B8.out
  clear BX B3 B4 B5 B6 B7 B8
  generalize (w8.alloc (.cells #[.slice qb0 Q.1.length qb3, .slice qb1 Q.2.1.length qb4, .slice qb2 Q.2.2.length qb5] 25)) = W at hBW J0 J1 J2 J3 J4 J5 J6 J7 ⊢
  obtain ⟨a0, ha0⟩ : ∃ a, w.heap.size = a := ⟨_, rfl⟩
  rw [ha0] at J0 ⊢
  obtain ⟨a1, ha1⟩ : ∃ a, w2.heap.size = a := ⟨_, rfl⟩
  rw [ha1] at J1 ⊢
  obtain ⟨a2, ha2⟩ : ∃ a, w3.heap.size = a := ⟨_, rfl⟩
  rw [ha2] at J2 ⊢
  obtain ⟨a3, ha3⟩ : ∃ a, w4.heap.size = a := ⟨_, rfl⟩
  rw [ha3] at J3 ⊢
  obtain ⟨a4, ha4⟩ : ∃ a, w5.heap.size = a := ⟨_, rfl⟩
  rw [ha4] at J4 ⊢
  obtain ⟨a5, ha5⟩ : ∃ a, w6.heap.size = a := ⟨_, rfl⟩
  rw [ha5] at J5 ⊢
  obtain ⟨a6, ha6⟩ : ∃ a, w7.heap.size = a := ⟨_, rfl⟩
  rw [ha6] at J6 ⊢
  obtain ⟨a7, ha7⟩ : ∃ a, w8.heap.size = a := ⟨_, rfl⟩
  rw [ha7] at J7 ⊢
  have HJ := Lib.hid (And.intro J0 (And.intro J1 (And.intro J2 (And.intro J3 (And.intro J4 (And.intro J5 (And.intro J6 J7)))))))
  have hout := Lib.hid (fun w' (hF : Fr W w') => (show (w'.cell? ⟨a0, 0, none⟩ = some (.slice p0 st.1.length c0) ∧ w'.cell? ⟨a0, 1, none⟩ = some (.slice p1 st.2.1.length c1') ∧ w'.cell? ⟨a0, 2, none⟩ = some (.slice p2 st.2.2.length c2')) ∧ (w'.cell? ⟨a1, 0, none⟩ = some (.slice px st.1.length cx) ∧ w'.cell? ⟨a1, 1, none⟩ = some (.slice p1 st.2.1.length c1') ∧ w'.cell? ⟨a1, 2, none⟩ = some (.slice p2 st.2.2.length c2')) ∧ (w'.cell? ⟨a2, 0, none⟩ = some (.slice pa0 P.1.length pa3) ∧ w'.cell? ⟨a2, 1, none⟩ = some (.slice pa1 P.2.1.length pa4) ∧ w'.cell? ⟨a2, 2, none⟩ = some (.slice pa2 P.2.2.length pa5)) ∧ (w'.cell? ⟨a3, 0, none⟩ = some (.slice pb0 P.1.length pb3) ∧ w'.cell? ⟨a3, 1, none⟩ = some (.slice pb1 P.2.1.length pb4) ∧ w'.cell? ⟨a3, 2, none⟩ = some (.slice pb2 P.2.2.length pb5)) ∧ (w'.cell? ⟨a4, 0, none⟩ = some (.slice ua0 U.1.length ua3) ∧ w'.cell? ⟨a4, 1, none⟩ = some (.slice ua1 U.2.1.length ua4) ∧ w'.cell? ⟨a4, 2, none⟩ = some (.slice ua2 U.2.2.length ua5)) ∧ (w'.cell? ⟨a5, 0, none⟩ = some (.slice ub0 U.1.length ub3) ∧ w'.cell? ⟨a5, 1, none⟩ = some (.slice ub1 U.2.1.length ub4) ∧ w'.cell? ⟨a5, 2, none⟩ = some (.slice ub2 U.2.2.length ub5)) ∧ (w'.cell? ⟨a6, 0, none⟩ = some (.slice qa0 Q.1.length qa3) ∧ w'.cell? ⟨a6, 1, none⟩ = some (.slice qa1 Q.2.1.length qa4) ∧ w'.cell? ⟨a6, 2, none⟩ = some (.slice qa2 Q.2.2.length qa5)) ∧ (w'.cell? ⟨a7, 0, none⟩ = some (.slice qb0 Q.1.length qb3) ∧ w'.cell? ⟨a7, 1, none⟩ = some (.slice qb1 Q.2.1.length qb4) ∧ w'.cell? ⟨a7, 2, none⟩ = some (.slice qb2 Q.2.2.length qb5)) from ⟨(HJ.out.1.call hF).c, (HJ.out.2.1.call hF).c, (HJ.out.2.2.1.call hF).c, (HJ.out.2.2.2.1.call hF).c, (HJ.out.2.2.2.2.1.call hF).c, (HJ.out.2.2.2.2.2.1.call hF).c, (HJ.out.2.2.2.2.2.2.1.call hF).c, (HJ.out.2.2.2.2.2.2.2.call hF).c⟩))
  have K0 := Lib.hid (fun w' (hF : Fr W w') => (HJ.out.1.call hF).s)
  have K1 := Lib.hid (fun w' (hF : Fr W w') => (HJ.out.2.1.call hF).s)
  have K2 := Lib.hid (fun w' (hF : Fr W w') => (HJ.out.2.2.1.call hF).s)
  have K3 := Lib.hid (fun w' (hF : Fr W w') => (HJ.out.2.2.2.1.call hF).s)
  have K4 := Lib.hid (fun w' (hF : Fr W w') => (HJ.out.2.2.2.2.1.call hF).s)
  have K5 := Lib.hid (fun w' (hF : Fr W w') => (HJ.out.2.2.2.2.2.1.call hF).s)
  have K6 := Lib.hid (fun w' (hF : Fr W w') => (HJ.out.2.2.2.2.2.2.1.call hF).s)
  have K7 := Lib.hid (fun w' (hF : Fr W w') => (HJ.out.2.2.2.2.2.2.2.call hF).s)
  have F0 : Fr W W.drew := Below.drew (Below.refl _ _)
  have HB := Lib.hid hBW
  clear J0 J1 J2 J3 J4 J5 J6 J7 hBW hb1 hb2 hb3 hb4 hb5 hb6 hb7 hb8 hs1 hs2 hs3 hs4 hs5 hs6 hs7 hs8 ha0 ha1 ha2 ha3 ha4 ha5 ha6 ha7
  try simp only [List.append_eq, List.cons_append, List.nil_append]
  refine wp_region_held_drew (S := fun w' => (w'.cell? ⟨a0, 0, none⟩ = some (.slice p0 st.1.length c0) ∧ w'.cell? ⟨a0, 1, none⟩ = some (.slice p1 st.2.1.length c1') ∧ w'.cell? ⟨a0, 2, none⟩ = some (.slice p2 st.2.2.length c2')) ∧ (w'.cell? ⟨a1, 0, none⟩ = some (.slice px st.1.length cx) ∧ w'.cell? ⟨a1, 1, none⟩ = some (.slice p1 st.2.1.length c1') ∧ w'.cell? ⟨a1, 2, none⟩ = some (.slice p2 st.2.2.length c2')) ∧ (w'.cell? ⟨a2, 0, none⟩ = some (.slice pa0 P.1.length pa3) ∧ w'.cell? ⟨a2, 1, none⟩ = some (.slice pa1 P.2.1.length pa4) ∧ w'.cell? ⟨a2, 2, none⟩ = some (.slice pa2 P.2.2.length pa5)) ∧ (w'.cell? ⟨a3, 0, none⟩ = some (.slice pb0 P.1.length pb3) ∧ w'.cell? ⟨a3, 1, none⟩ = some (.slice pb1 P.2.1.length pb4) ∧ w'.cell? ⟨a3, 2, none⟩ = some (.slice pb2 P.2.2.length pb5)) ∧ (w'.cell? ⟨a4, 0, none⟩ = some (.slice ua0 U.1.length ua3) ∧ w'.cell? ⟨a4, 1, none⟩ = some (.slice ua1 U.2.1.length ua4) ∧ w'.cell? ⟨a4, 2, none⟩ = some (.slice ua2 U.2.2.length ua5)) ∧ (w'.cell? ⟨a5, 0, none⟩ = some (.slice ub0 U.1.length ub3) ∧ w'.cell? ⟨a5, 1, none⟩ = some (.slice ub1 U.2.1.length ub4) ∧ w'.cell? ⟨a5, 2, none⟩ = some (.slice ub2 U.2.2.length ub5)) ∧ (w'.cell? ⟨a6, 0, none⟩ = some (.slice qa0 Q.1.length qa3) ∧ w'.cell? ⟨a6, 1, none⟩ = some (.slice qa1 Q.2.1.length qa4) ∧ w'.cell? ⟨a6, 2, none⟩ = some (.slice qa2 Q.2.2.length qa5)) ∧ (w'.cell? ⟨a7, 0, none⟩ = some (.slice qb0 Q.1.length qb3) ∧ w'.cell? ⟨a7, 1, none⟩ = some (.slice qb1 Q.2.1.length qb4) ∧ w'.cell? ⟨a7, 2, none⟩ = some (.slice qb2 Q.2.2.length qb5))) (by kernel_rfl) (hout.out _ (by assumption)) (fun hHeld => ?_)
  (refine wpAnyH_take (i := 0) (v := ?_) rfl (by kernel_rfl) (by kernel_rfl) (by kernel_rfl) (fun _ _ _ h => h) (Or.inl ⟨by rfl, ?_⟩) (by assumption) ?_; rotate_left 1; (focus (intro wz hz; (try dsimp only at hz); (try simp only [List.getElem_toArray, List.getElem_cons_succ, List.getElem_cons_zero]); go_simp; try (with_reducible rfl); done)))
  try simp only [Act.put, List.getElem_toArray, List.getElem_cons_succ, List.getElem_cons_zero, List.setIfInBounds_toArray, List.set_cons_zero, List.set_cons_succ]
  (refine wpAnyH_take (i := 2) (v := ?_) rfl (by kernel_rfl) (by kernel_rfl) (by kernel_rfl) (fun _ _ _ h => h) (Or.inl ⟨by rfl, ?_⟩) (by assumption) ?_; rotate_left 1; (focus (intro wz hz; (try dsimp only at hz); (try simp only [List.getElem_toArray, List.getElem_cons_succ, List.getElem_cons_zero]); go_simp; try (with_reducible rfl); done)))
  try simp only [Act.put, List.getElem_toArray, List.getElem_cons_succ, List.getElem_cons_zero, List.setIfInBounds_toArray, List.set_cons_zero, List.set_cons_succ]
  (refine wpAnyH_ready (rs := [1]) (by kernel_rfl) (by simp) ?_; refine AllReadyH.cons rfl (fun K hK => ?_) AllReadyH.nil; (try simp only [List.getElem_toArray, List.getElem_cons_succ, List.getElem_cons_zero]); go_simp; go_at_call 17; refine (e1.out _ _ _ _ (K2.out _ (by assumption))).mono ?_; rintro e wn1 ⟨v1, rfl, o1, hbn1⟩; have hTn1 := Fr.call (by assumption) hbn1; have M1 := Lib.hid (show IsLS wn1 _ _ _ _ from ⟨OwnN.reads o1, (K2.out _ hTn1).2⟩); clear o1; have hTn1 := Fr.call (by assumption) hbn1; (try (go_wp2_with fail)); refine hK.out _ _ (hout.out _ (by assumption)) (fun hHeld => ?_); clear hK K)
  try simp only [Act.put, List.getElem_toArray, List.getElem_cons_succ, List.getElem_cons_zero, List.setIfInBounds_toArray, List.set_cons_zero, List.set_cons_succ]
  (refine wpAnyH_ready (rs := [3]) (by kernel_rfl) (by simp) ?_; refine AllReadyH.cons rfl (fun K hK => ?_) AllReadyH.nil; (try simp only [List.getElem_toArray, List.getElem_cons_succ, List.getElem_cons_zero]); go_simp; go_at_call 16; refine (e2.out _ _ _ _ _ _ _ M1.out (K3.out _ (by assumption))).mono ?_; rintro e wn3 ⟨rfl, hbn3⟩; have hTn3 := Fr.call (by assumption) hbn3; (try (go_wp2_with fail)); refine hK.out _ _ (hout.out _ (by assumption)) (fun hHeld => ?_); clear hK K)
  try simp only [Act.put, List.getElem_toArray, List.getElem_cons_succ, List.getElem_cons_zero, List.setIfInBounds_toArray, List.set_cons_zero, List.set_cons_succ]
  (refine wpAnyH_take (i := 4) (v := ?_) rfl (by kernel_rfl) (by kernel_rfl) (by kernel_rfl) (fun _ _ _ h => h) (Or.inl ⟨by rfl, ?_⟩) (by assumption) ?_; rotate_left 1; (focus (intro wz hz; (try dsimp only at hz); (try simp only [List.getElem_toArray, List.getElem_cons_succ, List.getElem_cons_zero]); go_simp; try (with_reducible rfl); done)))
  try simp only [Act.put, List.getElem_toArray, List.getElem_cons_succ, List.getElem_cons_zero, List.setIfInBounds_toArray, List.set_cons_zero, List.set_cons_succ]
  first | (refine wpAnyH_take (i := 5) (v := ?_) rfl (by kernel_rfl) (by kernel_rfl) (by kernel_rfl) (fun _ _ _ h => h) (Or.inl ⟨by rfl, ?_⟩) (by assumption) ?_; rotate_left 1; (focus (intro wz hz; (try dsimp only at hz); (try simp only [List.getElem_toArray, List.getElem_cons_succ, List.getElem_cons_zero]); go_simp; try (with_reducible rfl); done))) | (refine wpAnyH_take (i := 5) (v := undef) rfl (by kernel_rfl) (by kernel_rfl) (by kernel_rfl) (fun _ _ _ h => h) (Or.inr ⟨by rfl, rfl⟩) (by assumption) ?_)
  try simp only [Act.put, List.getElem_toArray, List.getElem_cons_succ, List.getElem_cons_zero, List.setIfInBounds_toArray, List.set_cons_zero, List.set_cons_succ]
  first | (refine wpAnyH_take (i := 6) (v := ?_) rfl (by kernel_rfl) (by kernel_rfl) (by kernel_rfl) (fun _ _ _ h => h) (Or.inl ⟨by rfl, ?_⟩) (by assumption) ?_; rotate_left 1; (focus (intro wz hz; (try dsimp only at hz); (try simp only [List.getElem_toArray, List.getElem_cons_succ, List.getElem_cons_zero]); go_simp; try (with_reducible rfl); done))) | (refine wpAnyH_take (i := 6) (v := undef) rfl (by kernel_rfl) (by kernel_rfl) (by kernel_rfl) (fun _ _ _ h => h) (Or.inr ⟨by rfl, rfl⟩) (by assumption) ?_)
  try simp only [Act.put, List.getElem_toArray, List.getElem_cons_succ, List.getElem_cons_zero, List.setIfInBounds_toArray, List.set_cons_zero, List.set_cons_succ]
  first | (refine wpAnyH_take (i := 7) (v := ?_) rfl (by kernel_rfl) (by kernel_rfl) (by kernel_rfl) (fun _ _ _ h => h) (Or.inl ⟨by rfl, ?_⟩) (by assumption) ?_; rotate_left 1; (focus (intro wz hz; (try dsimp only at hz); (try simp only [List.getElem_toArray, List.getElem_cons_succ, List.getElem_cons_zero]); go_simp; try (with_reducible rfl); done))) | (refine wpAnyH_take (i := 7) (v := undef) rfl (by kernel_rfl) (by kernel_rfl) (by kernel_rfl) (fun _ _ _ h => h) (Or.inr ⟨by rfl, rfl⟩) (by assumption) ?_)
  try simp only [Act.put, List.getElem_toArray, List.getElem_cons_succ, List.getElem_cons_zero, List.setIfInBounds_toArray, List.set_cons_zero, List.set_cons_succ]
  (refine wpAnyH_take (i := 8) (v := ?_) rfl (by kernel_rfl) (by kernel_rfl) (by kernel_rfl) (fun _ _ _ h => h) (Or.inl ⟨by rfl, ?_⟩) (by assumption) ?_; rotate_left 1; (focus (intro wz hz; (try dsimp only at hz); (try simp only [List.getElem_toArray, List.getElem_cons_succ, List.getElem_cons_zero]); go_simp; try (with_reducible rfl); done)))
  try simp only [Act.put, List.getElem_toArray, List.getElem_cons_succ, List.getElem_cons_zero, List.setIfInBounds_toArray, List.set_cons_zero, List.set_cons_succ]
  (refine wpAnyH_take (i := 9) (v := ?_) rfl (by kernel_rfl) (by kernel_rfl) (by kernel_rfl) (fun _ _ _ h => h) (Or.inl ⟨by rfl, ?_⟩) (by assumption) ?_; rotate_left 1; (focus (intro wz hz; (try dsimp only at hz); (try simp only [List.getElem_toArray, List.getElem_cons_succ, List.getElem_cons_zero]); go_simp; try (with_reducible rfl); done)))
  try simp only [Act.put, List.getElem_toArray, List.getElem_cons_succ, List.getElem_cons_zero, List.setIfInBounds_toArray, List.set_cons_zero, List.set_cons_succ]
  first | (refine wpAnyH_take (i := 10) (v := ?_) rfl (by kernel_rfl) (by kernel_rfl) (by kernel_rfl) (fun _ _ _ h => h) (Or.inl ⟨by rfl, ?_⟩) (by assumption) ?_; rotate_left 1; (focus (intro wz hz; (try dsimp only at hz); (try simp only [List.getElem_toArray, List.getElem_cons_succ, List.getElem_cons_zero]); go_simp; try (with_reducible rfl); done))) | (refine wpAnyH_take (i := 10) (v := undef) rfl (by kernel_rfl) (by kernel_rfl) (by kernel_rfl) (fun _ _ _ h => h) (Or.inr ⟨by rfl, rfl⟩) (by assumption) ?_)
  try simp only [Act.put, List.getElem_toArray, List.getElem_cons_succ, List.getElem_cons_zero, List.setIfInBounds_toArray, List.set_cons_zero, List.set_cons_succ]
  first | (refine wpAnyH_take (i := 12) (v := ?_) rfl (by kernel_rfl) (by kernel_rfl) (by kernel_rfl) (fun _ _ _ h => h) (Or.inl ⟨by rfl, ?_⟩) (by assumption) ?_; rotate_left 1; (focus (intro wz hz; (try dsimp only at hz); (try simp only [List.getElem_toArray, List.getElem_cons_succ, List.getElem_cons_zero]); go_simp; try (with_reducible rfl); done))) | (refine wpAnyH_take (i := 12) (v := undef) rfl (by kernel_rfl) (by kernel_rfl) (by kernel_rfl) (fun _ _ _ h => h) (Or.inr ⟨by rfl, rfl⟩) (by assumption) ?_)
  try simp only [Act.put, List.getElem_toArray, List.getElem_cons_succ, List.getElem_cons_zero, List.setIfInBounds_toArray, List.set_cons_zero, List.set_cons_succ]
  (refine wpAnyH_ready (rs := [11]) (by kernel_rfl) (by simp) ?_; refine AllReadyH.cons rfl (fun K hK => ?_) AllReadyH.nil; (try simp only [List.getElem_toArray, List.getElem_cons_succ, List.getElem_cons_zero]); go_simp; go_at_call 17; refine (e3.out _ _ _ _ (K4.out _ (by assumption))).mono ?_; rintro e wn11 ⟨v2, rfl, o2, hbn11⟩; have hTn11 := Fr.call (by assumption) hbn11; have M2 := Lib.hid (show IsLS wn11 _ _ _ _ from ⟨OwnN.reads o2, (K4.out _ hTn11).2⟩); clear o2; have hTn11 := Fr.call (by assumption) hbn11; (try (go_wp2_with fail)); refine hK.out _ _ (hout.out _ (by assumption)) (fun hHeld => ?_); clear hK K)
  try simp only [Act.put, List.getElem_toArray, List.getElem_cons_succ, List.getElem_cons_zero, List.setIfInBounds_toArray, List.set_cons_zero, List.set_cons_succ]
  (refine wpAnyH_ready (rs := [13]) (by kernel_rfl) (by simp) ?_; refine AllReadyH.cons rfl (fun K hK => ?_) AllReadyH.nil; (try simp only [List.getElem_toArray, List.getElem_cons_succ, List.getElem_cons_zero]); go_simp; go_at_call 16; refine (e4.out _ _ _ _ _ _ _ M2.out (K5.out _ (by assumption))).mono ?_; rintro e wn13 ⟨rfl, hbn13⟩; have hTn13 := Fr.call (by assumption) hbn13; (try (go_wp2_with fail)); refine hK.out _ _ (hout.out _ (by assumption)) (fun hHeld => ?_); clear hK K)
  try simp only [Act.put, List.getElem_toArray, List.getElem_cons_succ, List.getElem_cons_zero, List.setIfInBounds_toArray, List.set_cons_zero, List.set_cons_succ]
  (refine wpAnyH_take (i := 14) (v := ?_) rfl (by kernel_rfl) (by kernel_rfl) (by kernel_rfl) (fun _ _ _ h => h) (Or.inl ⟨by rfl, ?_⟩) (by assumption) ?_; rotate_left 1; (focus (intro wz hz; (try dsimp only at hz); (try simp only [List.getElem_toArray, List.getElem_cons_succ, List.getElem_cons_zero]); go_simp; try (with_reducible rfl); done)))
  try simp only [Act.put, List.getElem_toArray, List.getElem_cons_succ, List.getElem_cons_zero, List.setIfInBounds_toArray, List.set_cons_zero, List.set_cons_succ]
  (refine wpAnyH_take (i := 15) (v := ?_) rfl (by kernel_rfl) (by kernel_rfl) (by kernel_rfl) (fun _ _ _ h => h) (Or.inl ⟨by rfl, ?_⟩) (by assumption) ?_; rotate_left 1; (focus (intro wz hz; (try dsimp only at hz); (try simp only [List.getElem_toArray, List.getElem_cons_succ, List.getElem_cons_zero]); go_simp; try (with_reducible rfl); done)))
  try simp only [Act.put, List.getElem_toArray, List.getElem_cons_succ, List.getElem_cons_zero, List.setIfInBounds_toArray, List.set_cons_zero, List.set_cons_succ]
  first | (refine wpAnyH_take (i := 16) (v := ?_) rfl (by kernel_rfl) (by kernel_rfl) (by kernel_rfl) (fun _ _ _ h => h) (Or.inl ⟨by rfl, ?_⟩) (by assumption) ?_; rotate_left 1; (focus (intro wz hz; (try dsimp only at hz); (try simp only [List.getElem_toArray, List.getElem_cons_succ, List.getElem_cons_zero]); go_simp; try (with_reducible rfl); done))) | (refine wpAnyH_take (i := 16) (v := undef) rfl (by kernel_rfl) (by kernel_rfl) (by kernel_rfl) (fun _ _ _ h => h) (Or.inr ⟨by rfl, rfl⟩) (by assumption) ?_)
  try simp only [Act.put, List.getElem_toArray, List.getElem_cons_succ, List.getElem_cons_zero, List.setIfInBounds_toArray, List.set_cons_zero, List.set_cons_succ]
  first | (refine wpAnyH_take (i := 17) (v := ?_) rfl (by kernel_rfl) (by kernel_rfl) (by kernel_rfl) (fun _ _ _ h => h) (Or.inl ⟨by rfl, ?_⟩) (by assumption) ?_; rotate_left 1; (focus (intro wz hz; (try dsimp only at hz); (try simp only [List.getElem_toArray, List.getElem_cons_succ, List.getElem_cons_zero]); go_simp; try (with_reducible rfl); done))) | (refine wpAnyH_take (i := 17) (v := undef) rfl (by kernel_rfl) (by kernel_rfl) (by kernel_rfl) (fun _ _ _ h => h) (Or.inr ⟨by rfl, rfl⟩) (by assumption) ?_)
  try simp only [Act.put, List.getElem_toArray, List.getElem_cons_succ, List.getElem_cons_zero, List.setIfInBounds_toArray, List.set_cons_zero, List.set_cons_succ]
  first | (refine wpAnyH_take (i := 18) (v := ?_) rfl (by kernel_rfl) (by kernel_rfl) (by kernel_rfl) (fun _ _ _ h => h) (Or.inl ⟨by rfl, ?_⟩) (by assumption) ?_; rotate_left 1; (focus (intro wz hz; (try dsimp only at hz); (try simp only [List.getElem_toArray, List.getElem_cons_succ, List.getElem_cons_zero]); go_simp; try (with_reducible rfl); done))) | (refine wpAnyH_take (i := 18) (v := undef) rfl (by kernel_rfl) (by kernel_rfl) (by kernel_rfl) (fun _ _ _ h => h) (Or.inr ⟨by rfl, rfl⟩) (by assumption) ?_)
  try simp only [Act.put, List.getElem_toArray, List.getElem_cons_succ, List.getElem_cons_zero, List.setIfInBounds_toArray, List.set_cons_zero, List.set_cons_succ]
  (refine wpAnyH_take (i := 19) (v := ?_) rfl (by kernel_rfl) (by kernel_rfl) (by kernel_rfl) (fun _ _ _ h => h) (Or.inl ⟨by rfl, ?_⟩) (by assumption) ?_; rotate_left 1; (focus (intro wz hz; (try dsimp only at hz); (try simp only [List.getElem_toArray, List.getElem_cons_succ, List.getElem_cons_zero]); go_simp; try (with_reducible rfl); done)))
  try simp only [Act.put, List.getElem_toArray, List.getElem_cons_succ, List.getElem_cons_zero, List.setIfInBounds_toArray, List.set_cons_zero, List.set_cons_succ]
  (refine wpAnyH_take (i := 20) (v := ?_) rfl (by kernel_rfl) (by kernel_rfl) (by kernel_rfl) (fun _ _ _ h => h) (Or.inl ⟨by rfl, ?_⟩) (by assumption) ?_; rotate_left 1; (focus (intro wz hz; (try dsimp only at hz); (try simp only [List.getElem_toArray, List.getElem_cons_succ, List.getElem_cons_zero]); go_simp; try (with_reducible rfl); done)))
  try simp only [Act.put, List.getElem_toArray, List.getElem_cons_succ, List.getElem_cons_zero, List.setIfInBounds_toArray, List.set_cons_zero, List.set_cons_succ]
  first | (refine wpAnyH_take (i := 21) (v := ?_) rfl (by kernel_rfl) (by kernel_rfl) (by kernel_rfl) (fun _ _ _ h => h) (Or.inl ⟨by rfl, ?_⟩) (by assumption) ?_; rotate_left 1; (focus (intro wz hz; (try dsimp only at hz); (try simp only [List.getElem_toArray, List.getElem_cons_succ, List.getElem_cons_zero]); go_simp; try (with_reducible rfl); done))) | (refine wpAnyH_take (i := 21) (v := undef) rfl (by kernel_rfl) (by kernel_rfl) (by kernel_rfl) (fun _ _ _ h => h) (Or.inr ⟨by rfl, rfl⟩) (by assumption) ?_)
  try simp only [Act.put, List.getElem_toArray, List.getElem_cons_succ, List.getElem_cons_zero, List.setIfInBounds_toArray, List.set_cons_zero, List.set_cons_succ]
  first | (refine wpAnyH_take (i := 23) (v := ?_) rfl (by kernel_rfl) (by kernel_rfl) (by kernel_rfl) (fun _ _ _ h => h) (Or.inl ⟨by rfl, ?_⟩) (by assumption) ?_; rotate_left 1; (focus (intro wz hz; (try dsimp only at hz); (try simp only [List.getElem_toArray, List.getElem_cons_succ, List.getElem_cons_zero]); go_simp; try (with_reducible rfl); done))) | (refine wpAnyH_take (i := 23) (v := undef) rfl (by kernel_rfl) (by kernel_rfl) (by kernel_rfl) (fun _ _ _ h => h) (Or.inr ⟨by rfl, rfl⟩) (by assumption) ?_)
  try simp only [Act.put, List.getElem_toArray, List.getElem_cons_succ, List.getElem_cons_zero, List.setIfInBounds_toArray, List.set_cons_zero, List.set_cons_succ]
  (refine wpAnyH_ready (rs := [22]) (by kernel_rfl) (by simp) ?_; refine AllReadyH.cons rfl (fun K hK => ?_) AllReadyH.nil; (try simp only [List.getElem_toArray, List.getElem_cons_succ, List.getElem_cons_zero]); go_simp; go_at_call 17; refine (e5.out _ _ _ _ (K6.out _ (by assumption))).mono ?_; rintro e wn22 ⟨v3, rfl, o3, hbn22⟩; have hTn22 := Fr.call (by assumption) hbn22; have M3 := Lib.hid (show IsLS wn22 _ _ _ _ from ⟨OwnN.reads o3, (K6.out _ hTn22).2⟩); clear o3; have hTn22 := Fr.call (by assumption) hbn22; (try (go_wp2_with fail)); refine hK.out _ _ (hout.out _ (by assumption)) (fun hHeld => ?_); clear hK K)
  try simp only [Act.put, List.getElem_toArray, List.getElem_cons_succ, List.getElem_cons_zero, List.setIfInBounds_toArray, List.set_cons_zero, List.set_cons_succ]
  (refine wpAnyH_ready (rs := [24]) (by kernel_rfl) (by simp) ?_; refine AllReadyH.cons rfl (fun K hK => ?_) AllReadyH.nil; (try simp only [List.getElem_toArray, List.getElem_cons_succ, List.getElem_cons_zero]); go_simp; go_at_call 16; refine (e6.out _ _ _ _ _ _ _ M3.out (K7.out _ (by assumption))).mono ?_; rintro e wn24 ⟨rfl, hbn24⟩; have hTn24 := Fr.call (by assumption) hbn24; (try (go_wp2_with fail)); refine hK.out _ _ (hout.out _ (by assumption)) (fun hHeld => ?_); clear hK K)
  try simp only [Act.put, List.getElem_toArray, List.getElem_cons_succ, List.getElem_cons_zero, List.setIfInBounds_toArray, List.set_cons_zero, List.set_cons_succ]
  (refine wpAnyH_take (i := 25) (v := ?_) rfl (by kernel_rfl) (by kernel_rfl) (by kernel_rfl) (fun _ _ _ h => h) (Or.inl ⟨by rfl, ?_⟩) (by assumption) ?_; rotate_left 1; (focus (intro wz hz; (try dsimp only at hz); (try simp only [List.getElem_toArray, List.getElem_cons_succ, List.getElem_cons_zero]); go_simp; try (with_reducible rfl); done)))
  try simp only [Act.put, List.getElem_toArray, List.getElem_cons_succ, List.getElem_cons_zero, List.setIfInBounds_toArray, List.set_cons_zero, List.set_cons_succ]
  (refine wpAnyH_take (i := 26) (v := ?_) rfl (by kernel_rfl) (by kernel_rfl) (by kernel_rfl) (fun _ _ _ h => h) (Or.inl ⟨by rfl, ?_⟩) (by assumption) ?_; rotate_left 1; (focus (intro wz hz; (try dsimp only at hz); (try simp only [List.getElem_toArray, List.getElem_cons_succ, List.getElem_cons_zero]); go_simp; try (with_reducible rfl); done)))
  try simp only [Act.put, List.getElem_toArray, List.getElem_cons_succ, List.getElem_cons_zero, List.setIfInBounds_toArray, List.set_cons_zero, List.set_cons_succ]
  first | (refine wpAnyH_take (i := 27) (v := ?_) rfl (by kernel_rfl) (by kernel_rfl) (by kernel_rfl) (fun _ _ _ h => h) (Or.inl ⟨by rfl, ?_⟩) (by assumption) ?_; rotate_left 1; (focus (intro wz hz; (try dsimp only at hz); (try simp only [List.getElem_toArray, List.getElem_cons_succ, List.getElem_cons_zero]); go_simp; try (with_reducible rfl); done))) | (refine wpAnyH_take (i := 27) (v := undef) rfl (by kernel_rfl) (by kernel_rfl) (by kernel_rfl) (fun _ _ _ h => h) (Or.inr ⟨by rfl, rfl⟩) (by assumption) ?_)
  try simp only [Act.put, List.getElem_toArray, List.getElem_cons_succ, List.getElem_cons_zero, List.setIfInBounds_toArray, List.set_cons_zero, List.set_cons_succ]
  first | (refine wpAnyH_take (i := 28) (v := ?_) rfl (by kernel_rfl) (by kernel_rfl) (by kernel_rfl) (fun _ _ _ h => h) (Or.inl ⟨by rfl, ?_⟩) (by assumption) ?_; rotate_left 1; (focus (intro wz hz; (try dsimp only at hz); (try simp only [List.getElem_toArray, List.getElem_cons_succ, List.getElem_cons_zero]); go_simp; try (with_reducible rfl); done))) | (refine wpAnyH_take (i := 28) (v := undef) rfl (by kernel_rfl) (by kernel_rfl) (by kernel_rfl) (fun _ _ _ h => h) (Or.inr ⟨by rfl, rfl⟩) (by assumption) ?_)
  try simp only [Act.put, List.getElem_toArray, List.getElem_cons_succ, List.getElem_cons_zero, List.setIfInBounds_toArray, List.set_cons_zero, List.set_cons_succ]
  first | (refine wpAnyH_take (i := 29) (v := ?_) rfl (by kernel_rfl) (by kernel_rfl) (by kernel_rfl) (fun _ _ _ h => h) (Or.inl ⟨by rfl, ?_⟩) (by assumption) ?_; rotate_left 1; (focus (intro wz hz; (try dsimp only at hz); (try simp only [List.getElem_toArray, List.getElem_cons_succ, List.getElem_cons_zero]); go_simp; try (with_reducible rfl); done))) | (refine wpAnyH_take (i := 29) (v := undef) rfl (by kernel_rfl) (by kernel_rfl) (by kernel_rfl) (fun _ _ _ h => h) (Or.inr ⟨by rfl, rfl⟩) (by assumption) ?_)
  try simp only [Act.put, List.getElem_toArray, List.getElem_cons_succ, List.getElem_cons_zero, List.setIfInBounds_toArray, List.set_cons_zero, List.set_cons_succ]
  (refine wpAnyH_take (i := 30) (v := ?_) rfl (by kernel_rfl) (by kernel_rfl) (by kernel_rfl) (fun _ _ _ h => h) (Or.inl ⟨by rfl, ?_⟩) (by assumption) ?_; rotate_left 1; (focus (intro wz hz; (try dsimp only at hz); (try simp only [List.getElem_toArray, List.getElem_cons_succ, List.getElem_cons_zero]); go_simp; try (with_reducible rfl); done)))
  try simp only [Act.put, List.getElem_toArray, List.getElem_cons_succ, List.getElem_cons_zero, List.setIfInBounds_toArray, List.set_cons_zero, List.set_cons_succ]
  (refine wpAnyH_take (i := 31) (v := ?_) rfl (by kernel_rfl) (by kernel_rfl) (by kernel_rfl) (fun _ _ _ h => h) (Or.inl ⟨by rfl, ?_⟩) (by assumption) ?_; rotate_left 1; (focus (intro wz hz; (try dsimp only at hz); (try simp only [List.getElem_toArray, List.getElem_cons_succ, List.getElem_cons_zero]); go_simp; try (with_reducible rfl); done)))
  try simp only [Act.put, List.getElem_toArray, List.getElem_cons_succ, List.getElem_cons_zero, List.setIfInBounds_toArray, List.set_cons_zero, List.set_cons_succ]
  first | (refine wpAnyH_take (i := 32) (v := ?_) rfl (by kernel_rfl) (by kernel_rfl) (by kernel_rfl) (fun _ _ _ h => h) (Or.inl ⟨by rfl, ?_⟩) (by assumption) ?_; rotate_left 1; (focus (intro wz hz; (try dsimp only at hz); (try simp only [List.getElem_toArray, List.getElem_cons_succ, List.getElem_cons_zero]); go_simp; try (with_reducible rfl); done))) | (refine wpAnyH_take (i := 32) (v := undef) rfl (by kernel_rfl) (by kernel_rfl) (by kernel_rfl) (fun _ _ _ h => h) (Or.inr ⟨by rfl, rfl⟩) (by assumption) ?_)
  try simp only [Act.put, List.getElem_toArray, List.getElem_cons_succ, List.getElem_cons_zero, List.setIfInBounds_toArray, List.set_cons_zero, List.set_cons_succ]
  first | (refine wpAnyH_take (i := 33) (v := ?_) rfl (by kernel_rfl) (by kernel_rfl) (by kernel_rfl) (fun _ _ _ h => h) (Or.inl ⟨by rfl, ?_⟩) (by assumption) ?_; rotate_left 1; (focus (intro wz hz; (try dsimp only at hz); (try simp only [List.getElem_toArray, List.getElem_cons_succ, List.getElem_cons_zero]); go_simp; try (with_reducible rfl); done))) | (refine wpAnyH_take (i := 33) (v := undef) rfl (by kernel_rfl) (by kernel_rfl) (by kernel_rfl) (fun _ _ _ h => h) (Or.inr ⟨by rfl, rfl⟩) (by assumption) ?_)
  try simp only [Act.put, List.getElem_toArray, List.getElem_cons_succ, List.getElem_cons_zero, List.setIfInBounds_toArray, List.set_cons_zero, List.set_cons_succ]
  first | (refine wpAnyH_take (i := 36) (v := ?_) rfl (by kernel_rfl) (by kernel_rfl) (by kernel_rfl) (fun _ _ _ h => h) (Or.inl ⟨by rfl, ?_⟩) (by assumption) ?_; rotate_left 1; (focus (intro wz hz; (try dsimp only at hz); (try simp only [List.getElem_toArray, List.getElem_cons_succ, List.getElem_cons_zero]); go_simp; try (with_reducible rfl); done))) | (refine wpAnyH_take (i := 36) (v := undef) rfl (by kernel_rfl) (by kernel_rfl) (by kernel_rfl) (fun _ _ _ h => h) (Or.inr ⟨by rfl, rfl⟩) (by assumption) ?_)
  try simp only [Act.put, List.getElem_toArray, List.getElem_cons_succ, List.getElem_cons_zero, List.setIfInBounds_toArray, List.set_cons_zero, List.set_cons_succ]
  first | (refine wpAnyH_take (i := 37) (v := ?_) rfl (by kernel_rfl) (by kernel_rfl) (by kernel_rfl) (fun _ _ _ h => h) (Or.inl ⟨by rfl, ?_⟩) (by assumption) ?_; rotate_left 1; (focus (intro wz hz; (try dsimp only at hz); (try simp only [List.getElem_toArray, List.getElem_cons_succ, List.getElem_cons_zero]); go_simp; try (with_reducible rfl); done))) | (refine wpAnyH_take (i := 37) (v := undef) rfl (by kernel_rfl) (by kernel_rfl) (by kernel_rfl) (fun _ _ _ h => h) (Or.inr ⟨by rfl, rfl⟩) (by assumption) ?_)
  try simp only [Act.put, List.getElem_toArray, List.getElem_cons_succ, List.getElem_cons_zero, List.setIfInBounds_toArray, List.set_cons_zero, List.set_cons_succ]
  (refine wpAnyH_ready (rs := [34]) (by kernel_rfl) (by simp) ?_; refine AllReadyH.cons rfl (fun K hK => ?_) AllReadyH.nil; (try simp only [List.getElem_toArray, List.getElem_cons_succ, List.getElem_cons_zero]); go_simp; go_at_call 18; refine (e7.out _ _ _ _ (K1.out _ (by assumption))).mono ?_; rintro e wn34 ⟨v4, v5, v6, rfl, o4, hbn34⟩; have hTn34 := Fr.call (by assumption) hbn34; have M4 := Lib.hid (OutLS.reads (W := w) o4 (K1.out _ hTn34)); clear o4; have hTn34 := Fr.call (by assumption) hbn34; (try (go_wp2_with fail)); refine hK.out _ _ (hout.out _ (by assumption)) (fun hHeld => ?_); clear hK K)
  try simp only [Act.put, List.getElem_toArray, List.getElem_cons_succ, List.getElem_cons_zero, List.setIfInBounds_toArray, List.set_cons_zero, List.set_cons_succ]
  (refine wpAnyH_ready (rs := [35]) (by kernel_rfl) (by simp) ?_; refine AllReadyH.cons rfl (fun K hK => ?_) AllReadyH.nil; (try simp only [List.getElem_toArray, List.getElem_cons_succ, List.getElem_cons_zero]); go_simp; go_at_call 17; refine (e8.out _ _ _ _ M4.out).mono ?_; rintro e wn35 ⟨v7, rfl, o7, hbn35⟩; have hTn35 := Fr.call (by assumption) hbn35; have M5 := Lib.hid (show IsLS wn35 _ _ _ _ from ⟨OwnN.reads o7, (M4.out.call hbn35).2⟩); clear o7; have hTn35 := Fr.call (by assumption) hbn35; (try (go_wp2_with fail)); refine hK.out _ _ (hout.out _ (by assumption)) (fun hHeld => ?_); clear hK K)
  try simp only [Act.put, List.getElem_toArray, List.getElem_cons_succ, List.getElem_cons_zero, List.setIfInBounds_toArray, List.set_cons_zero, List.set_cons_succ]
  (refine wpAnyH_ready (rs := [38]) (by kernel_rfl) (by simp) ?_; refine AllReadyH.cons rfl (fun K hK => ?_) AllReadyH.nil; (try simp only [List.getElem_toArray, List.getElem_cons_succ, List.getElem_cons_zero]); go_simp; go_at_call 19; refine (e9.out _ _ _ _ (K0.out _ (by assumption))).mono ?_; rintro e wn38 ⟨u1, u2, u3, rfl, o8, hbn38⟩; have hTn38 := Fr.call (by assumption) hbn38; have M6 := Lib.hid o8; have M7 := Lib.hid (M5.out.call hbn38); clear o8; have hTn38 := Fr.call (by assumption) hbn38; (try (go_wp2_with fail)); refine hK.out _ _ (hout.out _ (by assumption)) (fun hHeld => ?_); clear hK K)
  try simp only [Act.put, List.getElem_toArray, List.getElem_cons_succ, List.getElem_cons_zero, List.setIfInBounds_toArray, List.set_cons_zero, List.set_cons_succ]
  (refine wpAnyH_ready (rs := [39]) (by kernel_rfl) (by simp) ?_; refine AllReadyH.cons rfl (fun K hK => ?_) AllReadyH.nil; (try simp only [List.getElem_toArray, List.getElem_cons_succ, List.getElem_cons_zero]); go_simp; go_at_call 16; refine (e10.out _ _ _ _ _ _ _ M7.out M6.out).mono ?_; rintro e wn39 ⟨rfl, hbn39⟩; have hTn39 := Fr.call (by assumption) hbn39; (try (go_wp2_with fail)); refine hK.out _ _ (hout.out _ (by assumption)) (fun hHeld => ?_); clear hK K)
  try simp only [Act.put, List.getElem_toArray, List.getElem_cons_succ, List.getElem_cons_zero, List.setIfInBounds_toArray, List.set_cons_zero, List.set_cons_succ]
  (refine wpAnyH_take (i := 40) (v := ?_) rfl (by kernel_rfl) (by kernel_rfl) (by kernel_rfl) (fun _ _ _ h => h) (Or.inl ⟨by rfl, ?_⟩) (by assumption) ?_; rotate_left 1; (focus (intro wz hz; (try dsimp only at hz); (try simp only [List.getElem_toArray, List.getElem_cons_succ, List.getElem_cons_zero]); go_simp; try (with_reducible rfl); done)))
  try simp only [Act.put, List.getElem_toArray, List.getElem_cons_succ, List.getElem_cons_zero, List.setIfInBounds_toArray, List.set_cons_zero, List.set_cons_succ]
  (refine wpAnyH_take (i := 41) (v := ?_) rfl (by kernel_rfl) (by kernel_rfl) (by kernel_rfl) (fun _ _ _ h => h) (Or.inl ⟨by rfl, ?_⟩) (by assumption) ?_; rotate_left 1; (focus (intro wz hz; (try dsimp only at hz); (try simp only [List.getElem_toArray, List.getElem_cons_succ, List.getElem_cons_zero]); go_simp; try (with_reducible rfl); done)))
  try simp only [Act.put, List.getElem_toArray, List.getElem_cons_succ, List.getElem_cons_zero, List.setIfInBounds_toArray, List.set_cons_zero, List.set_cons_succ]
  first | (refine wpAnyH_take (i := 42) (v := ?_) rfl (by kernel_rfl) (by kernel_rfl) (by kernel_rfl) (fun _ _ _ h => h) (Or.inl ⟨by rfl, ?_⟩) (by assumption) ?_; rotate_left 1; (focus (intro wz hz; (try dsimp only at hz); (try simp only [List.getElem_toArray, List.getElem_cons_succ, List.getElem_cons_zero]); go_simp; try (with_reducible rfl); done))) | (refine wpAnyH_take (i := 42) (v := undef) rfl (by kernel_rfl) (by kernel_rfl) (by kernel_rfl) (fun _ _ _ h => h) (Or.inr ⟨by rfl, rfl⟩) (by assumption) ?_)
  try simp only [Act.put, List.getElem_toArray, List.getElem_cons_succ, List.getElem_cons_zero, List.setIfInBounds_toArray, List.set_cons_zero, List.set_cons_succ]
  first | (refine wpAnyH_take (i := 44) (v := ?_) rfl (by kernel_rfl) (by kernel_rfl) (by kernel_rfl) (fun _ _ _ h => h) (Or.inl ⟨by rfl, ?_⟩) (by assumption) ?_; rotate_left 1; (focus (intro wz hz; (try dsimp only at hz); (try simp only [List.getElem_toArray, List.getElem_cons_succ, List.getElem_cons_zero]); go_simp; try (with_reducible rfl); done))) | (refine wpAnyH_take (i := 44) (v := undef) rfl (by kernel_rfl) (by kernel_rfl) (by kernel_rfl) (fun _ _ _ h => h) (Or.inr ⟨by rfl, rfl⟩) (by assumption) ?_)
  try simp only [Act.put, List.getElem_toArray, List.getElem_cons_succ, List.getElem_cons_zero, List.setIfInBounds_toArray, List.set_cons_zero, List.set_cons_succ]
  (refine wpAnyH_ready (rs := [43]) (by kernel_rfl) (by simp) ?_; refine AllReadyH.cons rfl (fun K hK => ?_) AllReadyH.nil; (try simp only [List.getElem_toArray, List.getElem_cons_succ, List.getElem_cons_zero]); go_simp; go_at_call 17; refine (e11.out _ _ _ _ (K1.out _ (by assumption))).mono ?_; rintro e wn43 ⟨v8, rfl, o9, hbn43⟩; have hTn43 := Fr.call (by assumption) hbn43; have M8 := Lib.hid (show IsLS wn43 _ _ _ _ from ⟨OwnN.reads o9, (K1.out _ hTn43).2⟩); clear o9; have hTn43 := Fr.call (by assumption) hbn43; (try (go_wp2_with fail)); refine hK.out _ _ (hout.out _ (by assumption)) (fun hHeld => ?_); clear hK K)
  try simp only [Act.put, List.getElem_toArray, List.getElem_cons_succ, List.getElem_cons_zero, List.setIfInBounds_toArray, List.set_cons_zero, List.set_cons_succ]
  (refine wpAnyH_ready (rs := [45]) (by kernel_rfl) (by simp) ?_; refine AllReadyH.cons rfl (fun K hK => ?_) AllReadyH.nil; (try simp only [List.getElem_toArray, List.getElem_cons_succ, List.getElem_cons_zero]); go_simp; go_at_call 16; refine (e12.out _ _ _ _ _ _ _ M8.out (K0.out _ (by assumption))).mono ?_; rintro e wn45 ⟨rfl, hbn45⟩; have hTn45 := Fr.call (by assumption) hbn45; (try (go_wp2_with fail)); refine hK.out _ _ (hout.out _ (by assumption)) (fun hHeld => ?_); clear hK K)
  try simp only [Act.put, List.getElem_toArray, List.getElem_cons_succ, List.getElem_cons_zero, List.setIfInBounds_toArray, List.set_cons_zero, List.set_cons_succ]
  (refine wpAnyH_take (i := 46) (v := ?_) rfl (by kernel_rfl) (by kernel_rfl) (by kernel_rfl) (fun _ _ _ h => h) (Or.inl ⟨by rfl, ?_⟩) (by assumption) ?_; rotate_left 1; (focus (intro wz hz; (try dsimp only at hz); (try simp only [List.getElem_toArray, List.getElem_cons_succ, List.getElem_cons_zero]); go_simp; try (with_reducible rfl); done)))
  try simp only [Act.put, List.getElem_toArray, List.getElem_cons_succ, List.getElem_cons_zero, List.setIfInBounds_toArray, List.set_cons_zero, List.set_cons_succ]
  (refine wpAnyH_take (i := 47) (v := ?_) rfl (by kernel_rfl) (by kernel_rfl) (by kernel_rfl) (fun _ _ _ h => h) (Or.inl ⟨by rfl, ?_⟩) (by assumption) ?_; rotate_left 1; (focus (intro wz hz; (try dsimp only at hz); (try simp only [List.getElem_toArray, List.getElem_cons_succ, List.getElem_cons_zero]); go_simp; try (with_reducible rfl); done)))
  try simp only [Act.put, List.getElem_toArray, List.getElem_cons_succ, List.getElem_cons_zero, List.setIfInBounds_toArray, List.set_cons_zero, List.set_cons_succ]
  (refine wpAnyH_ready (rs := [48]) (by kernel_rfl) (by simp) ?_; refine AllReadyH.cons rfl (fun K hK => ?_) AllReadyH.nil; (try simp only [List.getElem_toArray, List.getElem_cons_succ, List.getElem_cons_zero]); go_simp; go_at_call 8; refine (awake_any _).mono ?_; rintro e wn48 ⟨rfl, hbn48⟩; have hTn48 := Fr.call (by assumption) hbn48; (try (go_wp2_with fail)); refine hK.out _ _ (hout.out _ (by assumption)) (fun hHeld => ?_); clear hK K)
  try simp only [Act.put, List.getElem_toArray, List.getElem_cons_succ, List.getElem_cons_zero, List.setIfInBounds_toArray, List.set_cons_zero, List.set_cons_succ]
  (refine wpAnyH_take (i := 49) (v := ?_) rfl (by kernel_rfl) (by kernel_rfl) (by kernel_rfl) (fun _ _ _ h => h) (Or.inl ⟨by rfl, ?_⟩) (by assumption) ?_; rotate_left 1; (focus (intro wz hz; (try dsimp only at hz); (try simp only [List.getElem_toArray, List.getElem_cons_succ, List.getElem_cons_zero]); go_simp; try (with_reducible rfl); done)))
  try simp only [Act.put, List.getElem_toArray, List.getElem_cons_succ, List.getElem_cons_zero, List.setIfInBounds_toArray, List.set_cons_zero, List.set_cons_succ]
  (refine wpAnyH_take (i := 50) (v := ?_) rfl (by kernel_rfl) (by kernel_rfl) (by kernel_rfl) (fun _ _ _ h => h) (Or.inl ⟨by rfl, ?_⟩) (by assumption) ?_; rotate_left 1; (focus (intro wz hz; (try dsimp only at hz); (try simp only [List.getElem_toArray, List.getElem_cons_succ, List.getElem_cons_zero]); go_simp; try (with_reducible rfl); done)))
  try simp only [Act.put, List.getElem_toArray, List.getElem_cons_succ, List.getElem_cons_zero, List.setIfInBounds_toArray, List.set_cons_zero, List.set_cons_succ]
  refine wpAnyH_done (by kernel_rfl) ?_ _
  go_wp2
  go_ret
  refine ⟨ret_bool ?_, Fr.fin HB.out (by assumption)⟩
  first | rfl | (simp; done) | trace_state

set_option maxRecDepth 100000 in
theorem cchanges_lifted (os : Os) (started : os.Started) (H : Type) (enc : TypeId × Value → H) :
    ReturnsInHanded {} Try.checked os 3 .any (Rows.chainChangesSpec.pre6 enc Try.prog Try.f3 Rows.chainChangesRow.domain false) (Rows.chainChangesSpec.post enc Try.prog Try.f3 false true false false) := by
  refine returnsInHanded_of_change (C := Try.checked) own started (by kernel_rfl) Try.func3
    (ChangeSpec.witness6 (enc := enc) (C := Try.checked) false ⟨#[], #[.agg #[.slice none 0 0, .slice none 0 0, .slice none 0 0], .int .i64 0, .int .i64 0], []⟩ 8 (by kernel_rfl) (by kernel_rfl) (by kernel_rfl) (by kernel_rfl)) ?_
  intro W base args ds gs before hval0 hW hcnd _
  have hval : ∀ (j : Nat) t v, Try.f3.params[j]? = some t → args[j]? = some v → Value.okWide Try.prog W .any base t v := hval0
  have hW' := hW
  obtain ⟨p, q, hA0, hV, rfl, hfz, hnd⟩ := hW
  have hA : DataW.TrodAll enc Try.prog W 0 (fun _ => true) true Try.f3.params.toList args.toList ds p := hA0
  rw [Try.params3] at hA hval
  obtain ⟨v0, vs0, d0, ds0, p0, q0, hargs, rfl, rfl, h0, r0⟩ := trodAll_cons hA
  obtain ⟨v1, vs1, d1, ds1, p1, q1, rfl, rfl, rfl, h1, r1⟩ := trodAll_cons r0
  obtain ⟨v2, vs2, d2, ds2, p2, q2, rfl, rfl, rfl, h2, r2⟩ := trodAll_cons r1
  obtain ⟨rfl, rfl, rfl⟩ := trodAll_nil r2
  obtain rfl : args = #[v0, v1, v2] := by cases args; simp_all
  obtain ⟨rfl, rfl⟩ := trodVars_none hV
  obtain ⟨vn, vh, vt, st, rfl, hst, _, _, _⟩ := open_lists (hval 0 25 v0 rfl rfl) h0
  obtain ⟨i, rfl, rfl, rfl, _⟩ := open_int Try.underlying3 (hval 1 3 v1 rfl rfl) h1
  obtain ⟨a, rfl, rfl, rfl, _⟩ := open_int Try.underlying3 (hval 2 3 v2 rfl rfl) h2
  refine (cchanges_walk vn vh vt st i a W hst).mono fun e W' ⟨he, hb⟩ => ?_
  subst he
  exact ⟨_, rfl, law_post rfl rfl Try.underlying4 (by kernel_rfl) rfl hW' hb⟩
theorem cchanges_holds : Rows.ChainChangesSaid :=
  OpenClaim.holds_of_wide 3 Try.f3 rfl rfl rfl rfl rfl rfl rfl ⟨rfl, rfl, rfl, rfl, rfl⟩ rfl rfl rfl rfl rfl (by kernel_rfl) Try.func3 (by kernel_rfl)
    (of_decide_eq_true (by kernel_rfl)) (by unfold Func.isWrapper; first | (rw [if_pos (by decide +kernel)]; kernel_rfl) | (rw [if_neg (by decide +kernel)]; exact ⟨rfl, rfl⟩))
    (fun os started H enc _ => cchanges_lifted os started H enc)
end Go.Proofs.Ytkcenadenmkgnaa
