/- AddrReads: any text is the address that the document says, or it is told why not; so is its bare one, with any resource: the statement holds for every input. No condition. -/
import Derived.Test.YtngaklciclbofaaDoorLawOpen9
import Derived.Test.YtngaklciclbofaaDoorLawMax
import Derived.Test.YtngaklciclbofaaDoorA9W
namespace Go.Proofs.YtngaklciclbofaaDoor
open Go.RowKit Go.ChangeShapes Go.WideShapes Go.ChangeAt
set_option linter.unusedVariables false
set_option linter.unusedSimpArgs false

set_option maxRecDepth 100000 in
set_option maxHeartbeats 16000000 in
theorem areads_walk (s r : ByteArray) (w : World) (hT : Tabs9 w) :
    Calls Tryd.prog 3 #[.string s, .string r] w fun e w' => e = .returned (.bool true) ∧ Below w.heap.size w w' := by
  have aw : Hid (∀ W, Below w.heap.size w W → Calls Tryd.prog 7 #[] W fun e w' => e = .returned (.bool true) ∧ Below W.heap.size W w') := Lib.hid (fun W hb => awake_any W (hT.call hb))
  by_cases l1 : (100 : Int) < s.size
  · go_enter Tryd.func3, Tryd.ntmps3
    go_wp2_with fail
    refine (aw.out _ (by (repeat (first | (with_reducible exact Below.refl _ _) | ((with_reducible refine below_alloc ?_ ?_ _); · (first | omega | (simp; done) | (simp; omega))) | ((with_reducible refine below_setCell ?_ ?_ _); · (first | omega | (simp; done) | (simp; omega))) | (with_reducible refine Below.drew ?_) | (with_reducible refine below_drewN ?_ _) | ((with_reducible refine below_call (by assumption) ?_ ?_); · (first | omega | (simp; done) | (simp; omega))))))).mono ?_; rintro e w1 ⟨rfl, hb1⟩
    go_wp2
    go_ret
    exact ⟨rfl, by (repeat (first | (with_reducible exact Below.refl _ _) | ((with_reducible refine below_alloc ?_ ?_ _); · (first | omega | (simp; done) | (simp; omega))) | ((with_reducible refine below_setCell ?_ ?_ _); · (first | omega | (simp; done) | (simp; omega))) | (with_reducible refine Below.drew ?_) | (with_reducible refine below_drewN ?_ _) | ((with_reducible refine below_call (by assumption) ?_ ?_); · (first | omega | (simp; done) | (simp; omega)))))⟩
  by_cases l2 : (100 : Int) < r.size
  · go_enter Tryd.func3, Tryd.ntmps3
    go_wp2_with fail
    refine (aw.out _ (by (repeat (first | (with_reducible exact Below.refl _ _) | ((with_reducible refine below_alloc ?_ ?_ _); · (first | omega | (simp; done) | (simp; omega))) | ((with_reducible refine below_setCell ?_ ?_ _); · (first | omega | (simp; done) | (simp; omega))) | (with_reducible refine Below.drew ?_) | (with_reducible refine below_drewN ?_ _) | ((with_reducible refine below_call (by assumption) ?_ ?_); · (first | omega | (simp; done) | (simp; omega))))))).mono ?_; rintro e w1 ⟨rfl, hb1⟩
    go_wp2
    go_ret
    exact ⟨rfl, by (repeat (first | (with_reducible exact Below.refl _ _) | ((with_reducible refine below_alloc ?_ ?_ _); · (first | omega | (simp; done) | (simp; omega))) | ((with_reducible refine below_setCell ?_ ?_ _); · (first | omega | (simp; done) | (simp; omega))) | (with_reducible refine Below.drew ?_) | (with_reducible refine below_drewN ?_ _) | ((with_reducible refine below_call (by assumption) ?_ ?_); · (first | omega | (simp; done) | (simp; omega)))))⟩
  have s1 : s.size ≤ 1000000 := by omega
  have s2 : r.size ≤ 1000000 := by omega
  have q1 := Lib.hid (fun W (hb : Below w.heap.size w W) => aparse_any s W (hT.call hb) s1)
  have q2 := Lib.hid (fun W => dparse_any s W (by omega))
  have q3 := Lib.hid (fun W (hb : Below w.heap.size w W) => abare_any s W (hT.call hb) s1)
  have q4 := Lib.hid (fun W => dbare_any s W s1)
  have q5 := Lib.hid (fun W (hb : Below w.heap.size w W) => afull_any s r W (hT.call hb) s1 s2)
  have q6 := Lib.hid (fun W => dfull_any s r W s1 s2)
  have q7 := Lib.hid (fun W (hb : Below w.heap.size w W) => aisbare_any s W (hT.call hb) s1)
  have q8 := Lib.hid (fun W => disbare_any s W s1)
  have q9 := Lib.hid (fun W (hb : Below w.heap.size w W) => ares_any r W (hT.call hb))
  have q10 := Lib.hid (fun W => dres_any r W)
  unfold parV at q1 q2
  generalize me (parE s) (nmP s) = pn at q1 q2
  generalize me (parE s) (hsP s) = ph at q1 q2
  generalize me (parE s) (rsP s) = pr at q1 q2
  generalize parE s = E at q1 q2
  generalize barT s = bt at q3 q4
  generalize barE s = be at q3 q4
  generalize fulT s r = ft at q5 q6
  generalize fulE s r = fe at q5 q6
  generalize isB s = ib at q7 q8
  generalize resE r = re at q9 q10
  simp only [adV] at q1 q2
  clear s1 s2
  go_enter Tryd.func3, Tryd.ntmps3
  go_wp2_with fail
  refine (q1.out _ (by (repeat (first | (with_reducible exact Below.refl _ _) | ((with_reducible refine below_alloc ?_ ?_ _); · (first | omega | (simp; done) | (simp; omega))) | ((with_reducible refine below_setCell ?_ ?_ _); · (first | omega | (simp; done) | (simp; omega))) | (with_reducible refine Below.drew ?_) | (with_reducible refine below_drewN ?_ _) | ((with_reducible refine below_call (by assumption) ?_ ?_); · (first | omega | (simp; done) | (simp; omega))))))).mono ?_; rintro e w1 ⟨rfl, hb1⟩
  have HB1 := hb1
  have hz1 := hb1.size
  go_wp2_with fail
  refine (q2.out _).mono ?_; rintro e w2 ⟨rfl, hb2⟩
  have hz2 := hb2.size
  have hg2 : Below w1.heap.size w1 w2 := by (repeat (first | (with_reducible exact Below.refl _ _) | ((with_reducible refine below_alloc ?_ ?_ _); · (first | omega | (simp; done) | (simp; omega))) | ((with_reducible refine below_setCell ?_ ?_ _); · (first | omega | (simp; done) | (simp; omega))) | (with_reducible refine Below.drew ?_) | (with_reducible refine below_drewN ?_ _) | ((with_reducible refine below_call (by assumption) ?_ ?_); · (first | omega | (simp; done) | (simp; omega)))))
  have HB2 := HB1.trans (hg2.mono HB1.size)
  have X : Hid (Bx3 w2 w1.heap.size pn ph pr) := Lib.hid (Bx3.call (by simp [Bx3, go_sem]) hb2)
  have lx := X.out.lt
  obtain ⟨x0, x1, x2⟩ := id X.out
  go_wp2_with fail
  clear lx x0 x1 x2
  refine (q3.out _ (HB2.trans ((show Below w2.heap.size w2 _ by (repeat (first | (with_reducible exact Below.refl _ _) | ((with_reducible refine below_alloc ?_ ?_ _); · (first | omega | (simp; done) | (simp; omega))) | ((with_reducible refine below_setCell ?_ ?_ _); · (first | omega | (simp; done) | (simp; omega))) | (with_reducible refine Below.drew ?_) | (with_reducible refine below_drewN ?_ _) | ((with_reducible refine below_call (by assumption) ?_ ?_); · (first | omega | (simp; done) | (simp; omega)))))).mono HB2.size))).mono ?_; rintro e w3 ⟨rfl, hb3⟩
  have hz3 := hb3.size
  have hg3 : Below w2.heap.size w2 w3 := by (repeat (first | (with_reducible exact Below.refl _ _) | ((with_reducible refine below_alloc ?_ ?_ _); · (first | omega | (simp; done) | (simp; omega))) | ((with_reducible refine below_setCell ?_ ?_ _); · (first | omega | (simp; done) | (simp; omega))) | (with_reducible refine Below.drew ?_) | (with_reducible refine below_drewN ?_ _) | ((with_reducible refine below_call (by assumption) ?_ ?_); · (first | omega | (simp; done) | (simp; omega)))))
  have HB3 := HB2.trans (hg3.mono HB2.size)
  have X := Lib.hid (X.out.call hg3)
  have Y : Hid (Bx3 w3 w2.heap.size pn ph pr) := Lib.hid (Bx3.call (by simp [Bx3, go_sem]) hb3)
  have lx := X.out.lt
  obtain ⟨x0, x1, x2⟩ := id X.out
  have ly := Y.out.lt
  obtain ⟨y0, y1, y2⟩ := id Y.out
  go_wp2_with fail
  clear lx x0 x1 x2 ly y0 y1 y2
  refine (q4.out _).mono ?_; rintro e w4 ⟨rfl, hb4⟩
  have hz4 := hb4.size
  have hg4 : Below w3.heap.size w3 w4 := by (repeat (first | (with_reducible exact Below.refl _ _) | ((with_reducible refine below_alloc ?_ ?_ _); · (first | omega | (simp; done) | (simp; omega))) | ((with_reducible refine below_setCell ?_ ?_ _); · (first | omega | (simp; done) | (simp; omega))) | (with_reducible refine Below.drew ?_) | (with_reducible refine below_drewN ?_ _) | ((with_reducible refine below_call (by assumption) ?_ ?_); · (first | omega | (simp; done) | (simp; omega)))))
  have HB4 := HB3.trans (hg4.mono HB3.size)
  have X := Lib.hid (X.out.call hg4)
  have Y := Lib.hid (Y.out.call hg4)
  have lx := X.out.lt
  obtain ⟨x0, x1, x2⟩ := id X.out
  have ly := Y.out.lt
  obtain ⟨y0, y1, y2⟩ := id Y.out
  go_wp2_with fail
  clear lx x0 x1 x2 ly y0 y1 y2
  refine (q5.out _ (HB4.trans ((show Below w4.heap.size w4 _ by (repeat (first | (with_reducible exact Below.refl _ _) | ((with_reducible refine below_alloc ?_ ?_ _); · (first | omega | (simp; done) | (simp; omega))) | ((with_reducible refine below_setCell ?_ ?_ _); · (first | omega | (simp; done) | (simp; omega))) | (with_reducible refine Below.drew ?_) | (with_reducible refine below_drewN ?_ _) | ((with_reducible refine below_call (by assumption) ?_ ?_); · (first | omega | (simp; done) | (simp; omega)))))).mono HB4.size))).mono ?_; rintro e w5 ⟨rfl, hb5⟩
  have hz5 := hb5.size
  have hg5 : Below w4.heap.size w4 w5 := by (repeat (first | (with_reducible exact Below.refl _ _) | ((with_reducible refine below_alloc ?_ ?_ _); · (first | omega | (simp; done) | (simp; omega))) | ((with_reducible refine below_setCell ?_ ?_ _); · (first | omega | (simp; done) | (simp; omega))) | (with_reducible refine Below.drew ?_) | (with_reducible refine below_drewN ?_ _) | ((with_reducible refine below_call (by assumption) ?_ ?_); · (first | omega | (simp; done) | (simp; omega)))))
  have HB5 := HB4.trans (hg5.mono HB4.size)
  have X := Lib.hid (X.out.call hg5)
  have Y := Lib.hid (Y.out.call hg5)
  have lx := X.out.lt
  obtain ⟨x0, x1, x2⟩ := id X.out
  have ly := Y.out.lt
  obtain ⟨y0, y1, y2⟩ := id Y.out
  go_wp2_with fail
  clear lx x0 x1 x2 ly y0 y1 y2
  refine (q6.out _).mono ?_; rintro e w6 ⟨rfl, hb6⟩
  have hz6 := hb6.size
  have hg6 : Below w5.heap.size w5 w6 := by (repeat (first | (with_reducible exact Below.refl _ _) | ((with_reducible refine below_alloc ?_ ?_ _); · (first | omega | (simp; done) | (simp; omega))) | ((with_reducible refine below_setCell ?_ ?_ _); · (first | omega | (simp; done) | (simp; omega))) | (with_reducible refine Below.drew ?_) | (with_reducible refine below_drewN ?_ _) | ((with_reducible refine below_call (by assumption) ?_ ?_); · (first | omega | (simp; done) | (simp; omega)))))
  have HB6 := HB5.trans (hg6.mono HB5.size)
  have X := Lib.hid (X.out.call hg6)
  have Y := Lib.hid (Y.out.call hg6)
  have lx := X.out.lt
  obtain ⟨x0, x1, x2⟩ := id X.out
  have ly := Y.out.lt
  obtain ⟨y0, y1, y2⟩ := id Y.out
  go_wp2_with fail
  clear lx x0 x1 x2 ly y0 y1 y2
  refine (q7.out _ (HB6.trans ((show Below w6.heap.size w6 _ by (repeat (first | (with_reducible exact Below.refl _ _) | ((with_reducible refine below_alloc ?_ ?_ _); · (first | omega | (simp; done) | (simp; omega))) | ((with_reducible refine below_setCell ?_ ?_ _); · (first | omega | (simp; done) | (simp; omega))) | (with_reducible refine Below.drew ?_) | (with_reducible refine below_drewN ?_ _) | ((with_reducible refine below_call (by assumption) ?_ ?_); · (first | omega | (simp; done) | (simp; omega)))))).mono HB6.size))).mono ?_; rintro e w7 ⟨rfl, hb7⟩
  have hz7 := hb7.size
  have hg7 : Below w6.heap.size w6 w7 := by (repeat (first | (with_reducible exact Below.refl _ _) | ((with_reducible refine below_alloc ?_ ?_ _); · (first | omega | (simp; done) | (simp; omega))) | ((with_reducible refine below_setCell ?_ ?_ _); · (first | omega | (simp; done) | (simp; omega))) | (with_reducible refine Below.drew ?_) | (with_reducible refine below_drewN ?_ _) | ((with_reducible refine below_call (by assumption) ?_ ?_); · (first | omega | (simp; done) | (simp; omega)))))
  have HB7 := HB6.trans (hg7.mono HB6.size)
  have X := Lib.hid (X.out.call hg7)
  have Y := Lib.hid (Y.out.call hg7)
  have lx := X.out.lt
  obtain ⟨x0, x1, x2⟩ := id X.out
  have ly := Y.out.lt
  obtain ⟨y0, y1, y2⟩ := id Y.out
  go_wp2_with fail
  clear lx x0 x1 x2 ly y0 y1 y2
  refine (q8.out _).mono ?_; rintro e w8 ⟨rfl, hb8⟩
  have hz8 := hb8.size
  have hg8 : Below w7.heap.size w7 w8 := by (repeat (first | (with_reducible exact Below.refl _ _) | ((with_reducible refine below_alloc ?_ ?_ _); · (first | omega | (simp; done) | (simp; omega))) | ((with_reducible refine below_setCell ?_ ?_ _); · (first | omega | (simp; done) | (simp; omega))) | (with_reducible refine Below.drew ?_) | (with_reducible refine below_drewN ?_ _) | ((with_reducible refine below_call (by assumption) ?_ ?_); · (first | omega | (simp; done) | (simp; omega)))))
  have HB8 := HB7.trans (hg8.mono HB7.size)
  have X := Lib.hid (X.out.call hg8)
  have Y := Lib.hid (Y.out.call hg8)
  have lx := X.out.lt
  obtain ⟨x0, x1, x2⟩ := id X.out
  have ly := Y.out.lt
  obtain ⟨y0, y1, y2⟩ := id Y.out
  go_wp2_with fail
  clear lx x0 x1 x2 ly y0 y1 y2
  refine (q9.out _ (HB8.trans ((show Below w8.heap.size w8 _ by (repeat (first | (with_reducible exact Below.refl _ _) | ((with_reducible refine below_alloc ?_ ?_ _); · (first | omega | (simp; done) | (simp; omega))) | ((with_reducible refine below_setCell ?_ ?_ _); · (first | omega | (simp; done) | (simp; omega))) | (with_reducible refine Below.drew ?_) | (with_reducible refine below_drewN ?_ _) | ((with_reducible refine below_call (by assumption) ?_ ?_); · (first | omega | (simp; done) | (simp; omega)))))).mono HB8.size))).mono ?_; rintro e w9 ⟨rfl, hb9⟩
  have hz9 := hb9.size
  have hg9 : Below w8.heap.size w8 w9 := by (repeat (first | (with_reducible exact Below.refl _ _) | ((with_reducible refine below_alloc ?_ ?_ _); · (first | omega | (simp; done) | (simp; omega))) | ((with_reducible refine below_setCell ?_ ?_ _); · (first | omega | (simp; done) | (simp; omega))) | (with_reducible refine Below.drew ?_) | (with_reducible refine below_drewN ?_ _) | ((with_reducible refine below_call (by assumption) ?_ ?_); · (first | omega | (simp; done) | (simp; omega)))))
  have HB9 := HB8.trans (hg9.mono HB8.size)
  have X := Lib.hid (X.out.call hg9)
  have Y := Lib.hid (Y.out.call hg9)
  have lx := X.out.lt
  obtain ⟨x0, x1, x2⟩ := id X.out
  have ly := Y.out.lt
  obtain ⟨y0, y1, y2⟩ := id Y.out
  go_wp2_with fail
  clear lx x0 x1 x2 ly y0 y1 y2
  refine (q10.out _).mono ?_; rintro e w10 ⟨rfl, hb10⟩
  have hz10 := hb10.size
  have hg10 : Below w9.heap.size w9 w10 := by (repeat (first | (with_reducible exact Below.refl _ _) | ((with_reducible refine below_alloc ?_ ?_ _); · (first | omega | (simp; done) | (simp; omega))) | ((with_reducible refine below_setCell ?_ ?_ _); · (first | omega | (simp; done) | (simp; omega))) | (with_reducible refine Below.drew ?_) | (with_reducible refine below_drewN ?_ _) | ((with_reducible refine below_call (by assumption) ?_ ?_); · (first | omega | (simp; done) | (simp; omega)))))
  have HB10 := HB9.trans (hg10.mono HB9.size)
  have X := Lib.hid (X.out.call hg10)
  have Y := Lib.hid (Y.out.call hg10)
  have lx := X.out.lt
  obtain ⟨x0, x1, x2⟩ := id X.out
  have ly := Y.out.lt
  obtain ⟨y0, y1, y2⟩ := id Y.out
  go_wp2_with fail
  clear lx x0 x1 x2 ly y0 y1 y2
  refine (aw.out _ (HB10.trans ((show Below w10.heap.size w10 _ by (repeat (first | (with_reducible exact Below.refl _ _) | ((with_reducible refine below_alloc ?_ ?_ _); · (first | omega | (simp; done) | (simp; omega))) | ((with_reducible refine below_setCell ?_ ?_ _); · (first | omega | (simp; done) | (simp; omega))) | (with_reducible refine Below.drew ?_) | (with_reducible refine below_drewN ?_ _) | ((with_reducible refine below_call (by assumption) ?_ ?_); · (first | omega | (simp; done) | (simp; omega)))))).mono HB10.size))).mono ?_; rintro e w11 ⟨rfl, hb11⟩
  have hz11 := hb11.size
  have hg11 : Below w10.heap.size w10 w11 := by (repeat (first | (with_reducible exact Below.refl _ _) | ((with_reducible refine below_alloc ?_ ?_ _); · (first | omega | (simp; done) | (simp; omega))) | ((with_reducible refine below_setCell ?_ ?_ _); · (first | omega | (simp; done) | (simp; omega))) | (with_reducible refine Below.drew ?_) | (with_reducible refine below_drewN ?_ _) | ((with_reducible refine below_call (by assumption) ?_ ?_); · (first | omega | (simp; done) | (simp; omega)))))
  have HB11 := HB10.trans (hg11.mono HB10.size)
  have X := Lib.hid (X.out.call hg11)
  have Y := Lib.hid (Y.out.call hg11)
  have lx := X.out.lt
  obtain ⟨x0, x1, x2⟩ := id X.out
  have ly := Y.out.lt
  obtain ⟨y0, y1, y2⟩ := id Y.out
  go_wp2_with fail
  clear lx x0 x1 x2 ly y0 y1 y2
  go_ret
  exact ⟨rfl, HB11⟩

set_option maxRecDepth 100000 in
theorem areads_lifted (os : Os) (started : os.Started) (H : Type) (enc : TypeId × Value → H) :
    ReturnsInHanded {} Tryd.checked os 3 .any (fun w args => (Rows.addrReadsSpec.pre enc Tryd.prog Tryd.f3 Rows.addrReadsRow.domain false w args ∧ laidMetH Tryd.prog laidU8 w) ∧ sizedMet enc Tryd.prog Tryd.f3 (OpenSpec.ofChange Rows.addrReadsSpec) false w args)
      (Rows.addrReadsSpec.post enc Tryd.prog Tryd.f3 false true false false) := by
  refine handed_shape (Pre' := fun w args => (Rows.addrReadsSpec.pre enc Tryd.prog Tryd.f3 Rows.addrReadsRow.domain false w args ∧ (laidMetH Tryd.prog laidU8 w ∧ Maxs w)) ∧ sizedMet enc Tryd.prog Tryd.f3 (OpenSpec.ofChange Rows.addrReadsSpec) false w args) (fun w args hs h => ⟨⟨h.1.1, h.1.2, maxs_of_shape hs⟩, h.2⟩) (fun w args h => ⟨⟨h.1.1, h.1.2.1⟩, h.2⟩) ?_
  refine returnsInHanded_of_change_and (C := Tryd.checked) (X := fun w _ => laidMetH Tryd.prog laidU8 w ∧ Maxs w) (fun _ _ _ hh h => ⟨h.1.of_heap hh, h.2.of_heap hh⟩) own started (by kernel_rfl) Tryd.func3
    (ChangeSpec.witness_shaped (enc := enc) (C := Tryd.checked) (os := os) (X := fun w _ => laidMetH Tryd.prog laidU8 w ∧ Maxs w) false (World.laidAll Tryd.prog os laidU8) #[.string ⟨#[]⟩, .string ⟨#[]⟩] 8 (World.laidAll_os _ _ _)
      (World.shaped_of_ZipB (by kernel_rfl) (by kernel_rfl)) (by kernel_rfl) (by kernel_rfl) (by kernel_rfl)
      ⟨by rw [MakeChecks.laidMetH_plain _ _ _ (by kernel_rfl)]; exact laidMet_laidAll _ (by kernel_rfl) (by kernel_rfl), maxs_laid os⟩) ?_
  intro W base args ds gs before hval0 hW _ _ hLM _
  obtain ⟨hL, hM⟩ := hLM
  have hval : ∀ (j : Nat) t v, Tryd.f3.params[j]? = some t → args[j]? = some v → Value.okWide Tryd.prog W .any base t v := hval0
  have hW' := hW
  obtain ⟨p, q, hA0, hV, rfl, hfz, hnd⟩ := hW
  have hA : DataW.TrodAll enc Tryd.prog W 0 (fun _ => true) true Tryd.f3.params.toList args.toList ds p := hA0
  rw [Tryd.params3] at hA hval
  obtain ⟨v0, vs0, d0, ds0, p0, q0, hargs, rfl, rfl, h0, r0⟩ := trodAll_cons hA
  obtain ⟨v1, vs1, d1, ds1, p1, q1, rfl, rfl, rfl, h1, r1⟩ := trodAll_cons r0
  obtain ⟨rfl, rfl, rfl⟩ := trodAll_nil r1
  obtain rfl : args = #[v0, v1] := by cases args; simp_all
  obtain ⟨rfl, rfl⟩ := trodVars_none hV
  obtain ⟨s, rfl, rfl, rfl, _⟩ := Go.ChangeMaps.open_string Tryd.underlying9 (hval 0 9 v0 rfl rfl) h0
  obtain ⟨r, rfl, rfl, rfl, _⟩ := Go.ChangeMaps.open_string Tryd.underlying9 (hval 1 9 v1 rfl rfl) h1
  refine (areads_walk s r W ⟨tabs_of_laid hL, hM⟩).mono fun e W' ⟨he, hb⟩ => ?_
  subst he
  exact ⟨_, rfl, law_post rfl rfl Tryd.underlying4 (by kernel_rfl) rfl hW' hb⟩
theorem areads_holds : Rows.AddrReadsSaid :=
  OpenClaim.holds_of_wide 3 Tryd.f3 rfl rfl rfl rfl rfl rfl rfl ⟨rfl, rfl, rfl, rfl, rfl⟩ rfl rfl rfl rfl rfl (by kernel_rfl) Tryd.func3 (by kernel_rfl)
    (of_decide_eq_true (by kernel_rfl)) (by unfold Func.isWrapper; first | (rw [if_pos (by decide +kernel)]; kernel_rfl) | (rw [if_neg (by decide +kernel)]; exact ⟨rfl, rfl⟩))
    (fun os started H enc _ => areads_lifted os started H enc)
theorem areads_card : Rows.AddrReadsCardSaid :=
  Claim7.holds_tied_plain_at .later [] [.data, .pinned] true Rows.addrReadsCard.stood.harness false areads_holds (fun _ h => by cases h) (by kernel_rfl) (fun _ h => by cases h) addrReads_row_tie rfl ⟨rfl, rfl⟩ (by kernel_rfl) rfl
    (fun f fn hf hfn => by
      obtain rfl : f = 3 := Option.some.inj ((show Tryd.prog.funcNamed "callboy/callboylaw09.AddrReads" = some 3 by kernel_rfl).symm.trans hf) |>.symm
      obtain rfl : fn = Tryd.f3 := (Option.some.inj (Tryd.func3.symm.trans hfn)).symm
      exact ⟨by kernel_rfl, fun j t ht => by
        rw [Tryd.params3] at ht
        have hm : t ∈ [9, 9] := by simpa using Array.mem_of_getElem? ht
        have hall : ([9, 9].all fun u => !Tryd.prog.wantsStandIn u) = true := by kernel_rfl
        exact (show Tryd.prog.wantsStandIn t = false by simpa using List.all_eq_true.1 hall t hm)⟩)
    (by kernel_rfl)
end Go.Proofs.YtngaklciclbofaaDoor
