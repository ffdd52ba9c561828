/- DeframePieces: it is nothing whether bytes come at once, in two pieces, or one by one: the statement holds for every input. No condition. -/
import Derived.Test.YtackinamkibmlaaDoorD12W
import Derived.Test.YtackinamkibmlaaDoorLawMax
namespace Go.Proofs.YtackinamkibmlaaDoor
open Go.RowKit Go.ChangeShapes Go.WideShapes Go.ChangeAt
set_option linter.unusedVariables false
set_option linter.unusedSimpArgs false

/-- the items of some bytes -/
def itsD (l : List UInt8) : List It := (pr l).1.map itD
def newD (l b : List UInt8) : List It := (txL (finD l) b).map itD
theorem itsD_len (l : List UInt8) : (itsD l).length ≤ l.length := by
  have := pr_len l
  unfold itsD
  rw [List.length_map]
  omega
theorem feed_at (l : List UInt8) (b : ByteArray) (w : World) (hT : Tabs9 w) (h : (l ++ b.data.toList).length ≤ 1000000) :
    Calls Tryd.prog 6 #[dsV (finD l), .string b] w fun e w' => ∃ v, e = .returned (.tuple #[dsV (finD (l ++ b.data.toList)), v]) ∧ OwnR 45 9 itC w' w.heap.size v (newD l b.data.toList) ∧ Below w.heap.size w w' := by
  have hl := finD_size l
  rw [List.length_append] at h
  have hf := dfeed_any (finD l) b w hT (by omega) (by rw [list_sz]; omega)
  rw [(tx_fin l b.data.toList (by rw [List.length_append]; omega)).1] at hf
  exact hf
theorem its_app (l b : List UInt8) (h : (l ++ b).length ≤ 1000000) : itsD (l ++ b) = itsD l ++ newD l b := by
  unfold itsD newD
  rw [(tx_fin l b h).2, List.map_append]
theorem new_one (l : List UInt8) (c : UInt8) : (newD l [c]).length ≤ 1 := by
  unfold newD
  rw [List.length_map]
  exact one_fin l c
theorem take_list (b : ByteArray) (k : Nat) : (b.extract 0 k).data.toList = b.data.toList.take k := by
  rw [ByteArray.data_extract]
  simp
theorem drop_list (b : ByteArray) (k : Nat) : (b.extract k b.size).data.toList = b.data.toList.drop k := by
  rw [ByteArray.data_extract]
  simp
  rw [List.take_of_length_le]
  simp
theorem one_list (b : ByteArray) (k : Nat) (h : k < b.size) : (b.extract k (k + 1)).data.toList = [b[k]] := by
  rw [ByteArray.data_extract]
  have hk : k < b.data.toList.length := by rw [← list_sz]; exact h
  simp only [Array.toList_extract, List.extract_eq_take_drop]
  rw [show k + 1 - k = 1 by omega]
  rw [List.drop_eq_getElem_cons hk]
  rfl
theorem row3_new {W w1 : World} {x y z : Value} {t : TypeId} (hb : Below (W.alloc (.cells #[x, y, z] t)).drew.heap.size (W.alloc (.cells #[x, y, z] t)).drew w1) : Row3 w1 W.heap.size x y z :=
  Row3.call (by simp [Row3, go_sem]) hb (by simp)
theorem row3_below {W w1 : World} {B b : Nat} {x y z : Value} (h : Row3 W b x y z) (hb : Below B W w1) (hl : b < B) : Row3 w1 b x y z :=
  ⟨⟨(hb.cell (p := ⟨b, 0, none⟩) hl).trans h.1.1, (hb.cell (p := ⟨b, 1, none⟩) hl).trans h.1.2.1, (hb.cell (p := ⟨b, 2, none⟩) hl).trans h.1.2.2⟩,
    (hb.frozen (p := ⟨b, 0, none⟩) hl).trans h.2.1, (hb.frozen (p := ⟨b, 1, none⟩) hl).trans h.2.2.1, (hb.frozen (p := ⟨b, 2, none⟩) hl).trans h.2.2.2⟩
theorem seen_len (l : List UInt8) : (finD l).seen = ((itsD l).length : Int) := by
  unfold itsD finD
  rw [List.length_map]
  split <;> rfl
set_option maxRecDepth 100000 in
set_option maxHeartbeats 8000000 in
theorem pieces_walk (b : ByteArray) (c : Int) (w : World) (hT : Tabs9 w) (hc0 : 0 ≤ c) (hc1 : c ≤ 255) :
    Calls Tryd.prog 3 #[.string b, .int .u8 c] w fun e w' => e = .returned (.bool true) ∧ Below w.heap.size w w' := by
  have aw : Hid (∀ W, Below w.heap.size w W → Calls Tryd.prog 5 #[] W fun e w' => e = .returned (.bool true) ∧ Below W.heap.size W w') := Lib.hid (fun W hb => awake_any W (hT.call hb))
  by_cases hb : b.size ≤ 300
  case neg =>
    have hb' : (300 : Int) < b.size := by omega
    clear hb
    go_enter Tryd.func3, Tryd.ntmps3
    go_wp2_with fail
    refine (aw.out _ (Below.refl _ _)).mono ?_; rintro e w1 ⟨rfl, hb1⟩
    go_wp2
    go_ret
    exact ⟨rfl, hb1⟩
  have hb' : ¬ (300 : Int) < b.size := by omega
  have hL : b.data.toList.length ≤ 300 := by rw [← list_sz]; exact hb
  obtain ⟨k, hk⟩ : ∃ k : Nat, c % ((b.size : Int) + 1) = k := ⟨(c % ((b.size : Int) + 1)).toNat, by have := Int.emod_nonneg c (show (b.size : Int) + 1 ≠ 0 by omega); omega⟩
  have hkb : k ≤ b.size := by have := Int.emod_lt_of_pos c (show (0 : Int) < (b.size : Int) + 1 by omega); omega
  have f1 := Lib.hid (fun W (hb : Below w.heap.size w W) => feed_at [] b W (hT.call hb) (by simp; omega))
  have f2 := Lib.hid (fun W (hb : Below w.heap.size w W) => feed_at [] (b.extract 0 k) W (hT.call hb) (by simp; omega))
  have f3 := Lib.hid (fun W (hb : Below w.heap.size w W) => feed_at (b.data.toList.take k) (b.extract k b.size) W (hT.call hb) (by simp; omega))
  rw [List.nil_append] at f1 f2
  rw [take_list] at f2
  rw [drop_list, List.take_append_drop] at f3
  have IT : Hid (itsD b.data.toList = newD [] b.data.toList ∧ itsD b.data.toList = newD [] (b.data.toList.take k) ++ newD (b.data.toList.take k) (b.data.toList.drop k)) := Lib.hid (by
    have h0 := its_app [] b.data.toList (by simp; omega)
    have h1 := its_app [] (b.data.toList.take k) (by simp; omega)
    have h2 := its_app (b.data.toList.take k) (b.data.toList.drop k) (by rw [List.take_append_drop]; omega)
    rw [List.take_append_drop] at h2
    rw [show itsD [] = [] from rfl, List.nil_append, List.nil_append] at h0 h1
    exact ⟨h0, by rw [h2, h1]⟩)
  have f4 := Lib.hid (fun (i : Nat) (hi : i < b.size) W (hb : Below w.heap.size w W) => feed_at (b.data.toList.take i) (b.extract i (i + 1)) W (hT.call hb) (by simp; omega))
  have f5 := Lib.hid (fun (i : Nat) W => dcheck_any (finD (b.data.toList.take i)) W (by have := finD_size (b.data.toList.take i); simp at this; omega))
  obtain ⟨sZ, hsZ⟩ : ∃ sZ : Nat → Ds, sZ = fun i => finD (b.data.toList.take i) := ⟨_, rfl⟩
  obtain ⟨nZ, hnZ⟩ : ∃ nZ : Nat → List It, nZ = fun i => itsD (b.data.toList.take i) := ⟨_, rfl⟩
  obtain ⟨oZ, hoZ⟩ : ∃ oZ : Nat → List It, oZ = fun i => newD (b.data.toList.take i) (b.extract i (i + 1)).data.toList := ⟨_, rfl⟩
  have tk : ∀ i, i < b.size → b.data.toList.take i ++ (b.extract i (i + 1)).data.toList = b.data.toList.take (i + 1) := fun i hi => by
    have hk : i < b.data.toList.length := by rw [← list_sz]; exact hi
    rw [one_list b i hi, List.take_succ_eq_append_getElem hk]
    rfl
  have g4 : Hid (∀ i, i < b.size → ∀ W, Below w.heap.size w W → Calls Tryd.prog 6 #[dsV (sZ i), .string (b.extract i (i + 1))] W fun e w' => ∃ v, e = .returned (.tuple #[dsV (sZ (i + 1)), v]) ∧ OwnR 45 9 itC w' W.heap.size v (oZ i) ∧ Below W.heap.size W w') := Lib.hid (fun i hi W hb => by
    have h := f4.out i hi W hb
    rw [tk i hi] at h
    rw [hsZ, hoZ]
    exact h)
  have g5 : Hid (∀ i W, Calls Tryd.prog 7 #[dsV (sZ i)] W fun e w' => e = .returned (.int .i64 0) ∧ Below W.heap.size W w') := Lib.hid (fun i W => by
    have h := f5.out i W
    rw [fin_chk] at h
    rw [hsZ]
    exact h)
  have gS : Hid (sZ 0 = ⟨⟨#[]⟩, 0, 0⟩ ∧ finD b.data.toList = sZ b.size ∧ finD (b.data.toList.take k) = sZ k ∧ nZ 0 = [] ∧ itsD b.data.toList = nZ b.size ∧ (∀ i, i < b.size → nZ (i + 1) = nZ i ++ oZ i) ∧ (∀ i, i < b.size → (oZ i).length ≤ 1) ∧ (∀ i, (nZ i).length ≤ 300) ∧ (sZ b.size).seen = ((nZ b.size).length : Int)) := Lib.hid (by
    have e0 : b.data.toList.take b.size = b.data.toList := List.take_of_length_le (by rw [← list_sz]; exact Nat.le_refl _)
    rw [hsZ, hnZ, hoZ]
    refine ⟨rfl, (by show _ = finD _; rw [e0]), rfl, rfl, (by show _ = itsD _; rw [e0]), fun i hi => ?_, fun i hi => ?_, fun i => ?_, ?_⟩
    · show itsD (b.data.toList.take (i + 1)) = _
      rw [← tk i hi]
      exact its_app _ _ (by simp; omega)
    · show (newD _ _).length ≤ 1
      rw [one_list b i hi]
      exact new_one _ _
    · have := itsD_len (b.data.toList.take i)
      simp at this
      show (itsD _).length ≤ 300
      omega
    · exact seen_len _)
  have e0 := gS.out.1
  have e1 := gS.out.2.1
  have e2 := gS.out.2.2.1
  have e3 := gS.out.2.2.2.2.1
  have i1 := IT.out.1
  have i2 := IT.out.2
  rw [← i1] at f1
  rw [e3] at f1 i2
  rw [e1, fin_nil] at f1
  rw [e2, fin_nil] at f2
  rw [e1, e2] at f3
  clear e1 e2 e3 i1 IT f4 f5 hsZ hnZ hoZ tk hL
  generalize newD [] (b.data.toList.take k) = L1 at f2 i2
  generalize newD (b.data.toList.take k) (b.data.toList.drop k) = L2 at f3 i2
  have I2 := Lib.hid i2
  clear i2
  simp only [dsV] at f1 f2 f3 g4 g5
  have hk' : IntKind.i64.wrap c = c := IntWalk.i64_in _ (by omega)
  have hn1 : IntKind.i64.wrap ((b.size : Int) + 1) = (b.size : Int) + 1 := IntWalk.i64_in _ (by omega)
  have hk2 : c.tmod ((b.size : Int) + 1) = k := by rw [Int.tmod_eq_emod_of_nonneg hc0]; exact hk
  have hnz : ((b.size : Int) + 1 == 0) = false := by simp; omega
  have hkb' : (k : Int) ≤ b.size := by omega
  go_enter Tryd.func3, Tryd.ntmps3
  go_wp2_with fail
  refine (f1.out _ (Below.refl _ _)).mono ?_; rintro e w1 ⟨v1, rfl, ho1, hb1⟩
  obtain ⟨p1, c1, rfl⟩ := ho1.form
  have B1 := hb1
  have z1 := B1.size
  have O1 := Lib.hid ho1
  clear ho1
  go_wp2_with fail
  refine (f2.out _ (by (repeat (first | (with_reducible exact Below.refl _ _) | ((with_reducible refine below_alloc ?_ ?_ _); · (first | omega | (simp; done) | (simp; omega))) | ((with_reducible refine below_setCell ?_ ?_ _); · (first | omega | (simp; done) | (simp; omega))) | (with_reducible refine Below.drew ?_) | (with_reducible refine below_drewN ?_ _) | ((with_reducible refine below_call (by assumption) ?_ ?_); · (first | omega | (simp; done) | (simp; omega))))))).mono ?_; rintro e w2 ⟨v2, rfl, ho2, hb2⟩
  obtain ⟨p2, c2, rfl⟩ := ho2.form
  have g2 : Below w1.heap.size w1 w2 := by (repeat (first | (with_reducible exact Below.refl _ _) | ((with_reducible refine below_alloc ?_ ?_ _); · (first | omega | (simp; done) | (simp; omega))) | ((with_reducible refine below_setCell ?_ ?_ _); · (first | omega | (simp; done) | (simp; omega))) | (with_reducible refine Below.drew ?_) | (with_reducible refine below_drewN ?_ _) | ((with_reducible refine below_call (by assumption) ?_ ?_); · (first | omega | (simp; done) | (simp; omega)))))
  have B2 : Below w.heap.size w w2 := below_call g2 B1.size B1
  have z2 := B2.size
  have X2 : Hid (Row3 w2 w1.heap.size (.string (sZ b.size).buf) (.int .i64 (sZ b.size).bad) (.int .i64 (sZ b.size).seen)) := Lib.hid (Row3.call (by simp [Row3, go_sem]) hb2 (by simp))
  have O2 := Lib.hid (ho2.mono (show w1.heap.size ≤ _ by simp))
  have y1 := X2.out.lt
  clear ho2
  go_wp2
  refine gen_world (F := fun W => Row3 W w2.heap.size (.string (sZ k).buf) (.int .i64 (sZ k).bad) (.int .i64 (sZ k).seen) ∧ Below w2.heap.size w2 W ∧ w2.heap.size < W.heap.size) ⟨by simp [Row3, go_sem], (Below.refl _ _).alloc (Nat.le_refl _) _, by simp⟩ ?_
  rintro W ⟨hY, bW, lW⟩
  have BW : Below w.heap.size w W := below_call bW B2.size B2
  have zW := BW.size
  have zW' := bW.size
  obtain ⟨⟨y0, y1', y2⟩, fy0, fy1, fy2⟩ := id hY
  have hkb2 : (k : Int) ≤ b.size := hkb'
  refine wp_region_held_drew (S := fun _ => True) (by kernel_rfl) (trivial) (fun hHeld => ?_)
  (refine wpAnyH_take (i := 1) (v := ?_) rfl (by kernel_rfl) (by kernel_rfl) (by kernel_rfl) (fun _ _ _ h => h) (Or.inl ⟨by rfl, ?_⟩) (by assumption) ?_; rotate_left 1; (focus (intro wz hz; (try dsimp only at hz); (try simp only [List.getElem_toArray, List.getElem_cons_succ, List.getElem_cons_zero]); go_simp; (try (rw [if_neg (by (try simp only [ByteArray.size_append]); omega)])); try (with_reducible rfl); done)))
  try simp only [Act.put, List.getElem_toArray, List.getElem_cons_succ, List.getElem_cons_zero, List.setIfInBounds_toArray, List.set_cons_zero, List.set_cons_succ]
  (refine wpAnyH_take (i := 2) (v := ?_) rfl (by kernel_rfl) (by kernel_rfl) (by kernel_rfl) (fun _ _ _ h => h) (Or.inl ⟨by rfl, ?_⟩) (by assumption) ?_; rotate_left 1; (focus (intro wz hz; (try dsimp only at hz); (try simp only [List.getElem_toArray, List.getElem_cons_succ, List.getElem_cons_zero]); go_simp; (try (rw [if_neg (by (try simp only [ByteArray.size_append]); omega)])); try (with_reducible rfl); done)))
  try simp only [Act.put, List.getElem_toArray, List.getElem_cons_succ, List.getElem_cons_zero, List.setIfInBounds_toArray, List.set_cons_zero, List.set_cons_succ]
  (refine wpAnyH_take (i := 3) (v := ?_) rfl (by kernel_rfl) (by kernel_rfl) (by kernel_rfl) (fun _ _ _ h => h) (Or.inl ⟨by rfl, ?_⟩) (by assumption) ?_; rotate_left 1; (focus (intro wz hz; (try dsimp only at hz); (try simp only [List.getElem_toArray, List.getElem_cons_succ, List.getElem_cons_zero]); go_simp; (try (rw [if_neg (by (try simp only [ByteArray.size_append]); omega)])); try (with_reducible rfl); done)))
  try simp only [Act.put, List.getElem_toArray, List.getElem_cons_succ, List.getElem_cons_zero, List.setIfInBounds_toArray, List.set_cons_zero, List.set_cons_succ]
  (refine wpAnyH_ready (rs := [0]) (by kernel_rfl) (by simp) ?_; refine AllReadyH.cons rfl (fun K hK => ?_) AllReadyH.nil; (try simp only [List.getElem_toArray, List.getElem_cons_succ, List.getElem_cons_zero]); skip; go_simp; refine hK.out _ _ (trivial) (fun hHeld => ?_); clear hK K)
  try simp only [Act.put, List.getElem_toArray, List.getElem_cons_succ, List.getElem_cons_zero, List.setIfInBounds_toArray, List.set_cons_zero, List.set_cons_succ]
  (refine wpAnyH_ready (rs := [4]) (by kernel_rfl) (by simp) ?_; refine AllReadyH.cons rfl (fun K hK => ?_) AllReadyH.nil; (try simp only [List.getElem_toArray, List.getElem_cons_succ, List.getElem_cons_zero]); go_simp; go_at_call 6; refine (f3.out _ (by (repeat (first | (with_reducible exact Below.refl _ _) | ((with_reducible refine below_alloc ?_ ?_ _); · (first | omega | (simp; done) | (simp; omega))) | ((with_reducible refine below_setCell ?_ ?_ _); · (first | omega | (simp; done) | (simp; omega))) | (with_reducible refine Below.drew ?_) | (with_reducible refine below_drewN ?_ _) | ((with_reducible refine below_call (by assumption) ?_ ?_); · (first | omega | (simp; done) | (simp; omega))))))).mono ?_; rintro e wn4 ⟨v3, rfl, ho3, hbn4⟩; obtain ⟨p3, c3, rfl⟩ := ho3.form; have g4 : Below W.heap.size W wn4 := (by (repeat (first | (with_reducible exact Below.refl _ _) | ((with_reducible refine below_alloc ?_ ?_ _); · (first | omega | (simp; done) | (simp; omega))) | ((with_reducible refine below_setCell ?_ ?_ _); · (first | omega | (simp; done) | (simp; omega))) | (with_reducible refine Below.drew ?_) | (with_reducible refine below_drewN ?_ _) | ((with_reducible refine below_call (by assumption) ?_ ?_); · (first | omega | (simp; done) | (simp; omega)))))); have Y4 := hY.call g4 lW; clear y0 y1' y2 fy0 fy1 fy2; obtain ⟨⟨y0, y1', y2⟩, fy0, fy1, fy2⟩ := id Y4; (try (go_wp2_with fail)); refine hK.out _ _ (trivial) (fun hHeld => ?_); clear hK K)
  try simp only [Act.put, List.getElem_toArray, List.getElem_cons_succ, List.getElem_cons_zero, List.setIfInBounds_toArray, List.set_cons_zero, List.set_cons_succ]
  (refine wpAnyH_take (i := 5) (v := ?_) rfl (by kernel_rfl) (by kernel_rfl) (by kernel_rfl) (fun _ _ _ h => h) (Or.inl ⟨by rfl, ?_⟩) (by assumption) ?_; rotate_left 1; (focus (intro wz hz; (try dsimp only at hz); (try simp only [List.getElem_toArray, List.getElem_cons_succ, List.getElem_cons_zero]); go_simp; (try (rw [if_neg (by (try simp only [ByteArray.size_append]); omega)])); try (with_reducible rfl); done)))
  try simp only [Act.put, List.getElem_toArray, List.getElem_cons_succ, List.getElem_cons_zero, List.setIfInBounds_toArray, List.set_cons_zero, List.set_cons_succ]
  (refine wpAnyH_take (i := 6) (v := ?_) rfl (by kernel_rfl) (by kernel_rfl) (by kernel_rfl) (fun _ _ _ h => h) (Or.inl ⟨by rfl, ?_⟩) (by assumption) ?_; rotate_left 1; (focus (intro wz hz; (try dsimp only at hz); (try simp only [List.getElem_toArray, List.getElem_cons_succ, List.getElem_cons_zero]); go_simp; (try (rw [if_neg (by (try simp only [ByteArray.size_append]); omega)])); try (with_reducible rfl); done)))
  try simp only [Act.put, List.getElem_toArray, List.getElem_cons_succ, List.getElem_cons_zero, List.setIfInBounds_toArray, List.set_cons_zero, List.set_cons_succ]
  (refine wpAnyH_take (i := 7) (v := ?_) rfl (by kernel_rfl) (by kernel_rfl) (by kernel_rfl) (fun _ _ _ h => h) (Or.inl ⟨by rfl, ?_⟩) (by assumption) ?_; rotate_left 1; (focus (intro wz hz; (try dsimp only at hz); (try simp only [List.getElem_toArray, List.getElem_cons_succ, List.getElem_cons_zero]); go_simp; (try (rw [if_neg (by (try simp only [ByteArray.size_append]); omega)])); try (with_reducible rfl); done)))
  try simp only [Act.put, List.getElem_toArray, List.getElem_cons_succ, List.getElem_cons_zero, List.setIfInBounds_toArray, List.set_cons_zero, List.set_cons_succ]
  (refine wpAnyH_ready (rs := [8]) (by kernel_rfl) (by simp) ?_; refine AllReadyH.cons rfl (fun K hK => ?_) AllReadyH.nil; (try simp only [List.getElem_toArray, List.getElem_cons_succ, List.getElem_cons_zero]); skip; go_simp; refine hK.out _ _ (trivial) (fun hHeld => ?_); clear hK K)
  try simp only [Act.put, List.getElem_toArray, List.getElem_cons_succ, List.getElem_cons_zero, List.setIfInBounds_toArray, List.set_cons_zero, List.set_cons_succ]
  (refine wpAnyH_take (i := 9) (v := ?_) rfl (by kernel_rfl) (by kernel_rfl) (by kernel_rfl) (fun _ _ _ h => h) (Or.inl ⟨by rfl, ?_⟩) (by assumption) ?_; rotate_left 1; (focus (intro wz hz; (try dsimp only at hz); (try simp only [List.getElem_toArray, List.getElem_cons_succ, List.getElem_cons_zero]); go_simp; (try (rw [if_neg (by (try simp only [ByteArray.size_append]); omega)])); try (with_reducible rfl); done)))
  try simp only [Act.put, List.getElem_toArray, List.getElem_cons_succ, List.getElem_cons_zero, List.setIfInBounds_toArray, List.set_cons_zero, List.set_cons_succ]
  refine wpAnyH_done (by kernel_rfl) ?_ _
  have S2 : Below w2.heap.size w2 ((((wn4.setCell ⟨w2.heap.size, 0, none⟩ (.string (sZ b.size).buf)).setCell ⟨w2.heap.size, 1, none⟩ (.int .i64 (sZ b.size).bad)).setCell ⟨w2.heap.size, 2, none⟩ (.int .i64 (sZ b.size).seen))) :=
    (((bW.trans (g4.mono zW')).setCell (p := ⟨w2.heap.size, 0, none⟩) (Nat.le_refl _) _).setCell (p := ⟨w2.heap.size, 1, none⟩) (Nat.le_refl _) _).setCell (p := ⟨w2.heap.size, 2, none⟩) (Nat.le_refl _) _
  have YS := ((Y4.set0 (.string (sZ b.size).buf)).set1 (.int .i64 (sZ b.size).bad)).set2 (.int .i64 (sZ b.size).seen)
  have OS := ((ho3.set (p := ⟨w2.heap.size, 0, none⟩) lW (.string (sZ b.size).buf)).set (p := ⟨w2.heap.size, 1, none⟩) lW (.int .i64 (sZ b.size).bad)).set (p := ⟨w2.heap.size, 2, none⟩) lW (.int .i64 (sZ b.size).seen)
  clear y0 y1' y2 fy0 fy1 fy2 hHeld hbn4 g4 Y4 hY
  generalize (((wn4.setCell ⟨w2.heap.size, 0, none⟩ (.string (sZ b.size).buf)).setCell ⟨w2.heap.size, 1, none⟩ (.int .i64 (sZ b.size).bad)).setCell ⟨w2.heap.size, 2, none⟩ (.int .i64 (sZ b.size).seen)) = W0 at S2 YS OS ⊢
  have X0 := Lib.hid (X2.out.call S2 y1)
  have P1 := Lib.hid (O1.out.call (below_call S2 g2.size g2))
  have P2 := Lib.hid (O2.out.call S2)
  have P3 := Lib.hid OS
  have Y0 := Lib.hid YS
  have B0 : Below w.heap.size w W0 := below_call S2 B2.size B2
  clear X2 O1 O2 OS YS ho3 S2 bW BW g2 hb1 hb2 B1 B2 lW zW zW' z1 z2 y1 f1 f2 f3
  go_wp2
  have e3 := gS.out.2.2.2.1
  go_loopw [12, 13] (fun n i wr => ∃ q : Nat, i = .int .i64 q ∧ q ≤ b.size ∧ OwnR 45 9 itC wr (W0.heap.size + 1) n (nZ q) ∧ Row3 wr W0.heap.size (.string (sZ q).buf) (.int .i64 (sZ q).bad) (.int .i64 (sZ q).seen) ∧ Below W0.heap.size W0 wr) (fun _ i _ => b.size - (intOf i).toNat)
  case atStart => exact ⟨0, rfl, Nat.zero_le _, by rw [e3]; exact OwnR.nil _ _ _ _ _, by rw [e0]; simp [Row3, go_sem], (Below.refl _ _).alloc (Nat.le_refl _) _⟩
  case round =>
    obtain ⟨q, rfl, hq, hn, hz, hB⟩ := hrel
    have HN := Lib.hid hn
    have HZ := Lib.hid hz
    obtain ⟨pn, cn, rfl⟩ := hn.form
    have lZ := hz.lt
    have zr := hB.size
    clear hn hz e0 e3
    by_cases hlt : q < b.size
    · have hlt' : (q : Int) < b.size := by omega
      have q0 : (0 : Int) ≤ q := by omega
      have q1 : (q : Int) ≤ (q : Int) + 1 := by omega
      have q2 : (q : Int) + 1 ≤ b.size := by omega
      have q3 : ((q : Int) + 1).toNat = q + 1 := by omega
      have hw : IntKind.i64.wrap ((q : Int) + 1) = (q : Int) + 1 := IntWalk.i64_in _ (by omega)
      have hout : Hid (∀ W', Below wr.heap.size wr W' → W'.cell? ⟨W0.heap.size, 0, none⟩ = some (.string (sZ q).buf) ∧ W'.cell? ⟨W0.heap.size, 1, none⟩ = some (.int .i64 (sZ q).bad) ∧ W'.cell? ⟨W0.heap.size, 2, none⟩ = some (.int .i64 (sZ q).seen)) := Lib.hid (fun W' h => (HZ.out.call h lZ).1)
      have BR : Below w.heap.size w wr := below_call hB B0.size B0
      have zR := BR.size
      go_upto_region 12 with fail
      go_cut [14, 15] (fun pw po wx => ∃ (bw : Nat) (p5 : Option Addr) (c5 : Nat), pw = .pointer (some ⟨bw, 0, none⟩) ∧ po = .slice p5 (oZ q).length c5 ∧ wr.heap.size ≤ bw ∧ Row3 wx bw (.string (sZ (q + 1)).buf) (.int .i64 (sZ (q + 1)).bad) (.int .i64 (sZ (q + 1)).seen) ∧ IsR 9 itC wx po (oZ q) ∧ Below wr.heap.size wr wx)
      case first =>
        have hT0 : Below wr.heap.size wr wr.drew := Below.drew (Below.refl _ _)
        refine wp_region_held_drew (S := fun W' => W'.cell? ⟨W0.heap.size, 0, none⟩ = some (.string (sZ q).buf) ∧ W'.cell? ⟨W0.heap.size, 1, none⟩ = some (.int .i64 (sZ q).bad) ∧ W'.cell? ⟨W0.heap.size, 2, none⟩ = some (.int .i64 (sZ q).seen)) (by kernel_rfl) (hout.out _ (by assumption)) (fun hHeld => ?_)
        (refine wpAnyH_take (i := 0) (v := ?_) rfl (by kernel_rfl) (by kernel_rfl) (by kernel_rfl) (fun _ _ _ h => h) (Or.inl ⟨by rfl, ?_⟩) (by assumption) ?_; rotate_left 1; (focus (intro wz hz; (try dsimp only at hz); (try simp only [List.getElem_toArray, List.getElem_cons_succ, List.getElem_cons_zero]); go_simp; (try (rw [if_neg (by (try simp only [ByteArray.size_append]); omega)])); try (with_reducible rfl); done)))
        try simp only [Act.put, List.getElem_toArray, List.getElem_cons_succ, List.getElem_cons_zero, List.setIfInBounds_toArray, List.set_cons_zero, List.set_cons_succ]
        (refine wpAnyH_take (i := 1) (v := ?_) rfl (by kernel_rfl) (by kernel_rfl) (by kernel_rfl) (fun _ _ _ h => h) (Or.inl ⟨by rfl, ?_⟩) (by assumption) ?_; rotate_left 1; (focus (intro wz hz; (try dsimp only at hz); (try simp only [List.getElem_toArray, List.getElem_cons_succ, List.getElem_cons_zero]); go_simp; (try (rw [if_neg (by (try simp only [ByteArray.size_append]); omega)])); try (with_reducible rfl); done)))
        try simp only [Act.put, List.getElem_toArray, List.getElem_cons_succ, List.getElem_cons_zero, List.setIfInBounds_toArray, List.set_cons_zero, List.set_cons_succ]
        (refine wpAnyH_take (i := 2) (v := ?_) rfl (by kernel_rfl) (by kernel_rfl) (by kernel_rfl) (fun _ _ _ h => h) (Or.inl ⟨by rfl, ?_⟩) (by assumption) ?_; rotate_left 1; (focus (intro wz hz; (try dsimp only at hz); (try simp only [List.getElem_toArray, List.getElem_cons_succ, List.getElem_cons_zero]); go_simp; (try (rw [if_neg (by (try simp only [ByteArray.size_append]); omega)])); try (with_reducible rfl); done)))
        try simp only [Act.put, List.getElem_toArray, List.getElem_cons_succ, List.getElem_cons_zero, List.setIfInBounds_toArray, List.set_cons_zero, List.set_cons_succ]
        (refine wpAnyH_take (i := 3) (v := ?_) rfl (by kernel_rfl) (by kernel_rfl) (by kernel_rfl) (fun _ _ _ h => h) (Or.inl ⟨by rfl, ?_⟩) (by assumption) ?_; rotate_left 1; (focus (intro wz hz; (try dsimp only at hz); (try simp only [List.getElem_toArray, List.getElem_cons_succ, List.getElem_cons_zero]); go_simp; (try (rw [if_neg (by (try simp only [ByteArray.size_append]); omega)])); try (with_reducible rfl); done)))
        try simp only [Act.put, List.getElem_toArray, List.getElem_cons_succ, List.getElem_cons_zero, List.setIfInBounds_toArray, List.set_cons_zero, List.set_cons_succ]
        (refine wpAnyH_take (i := 4) (v := ?_) rfl (by kernel_rfl) (by kernel_rfl) (by kernel_rfl) (fun _ _ _ h => h) (Or.inl ⟨by rfl, ?_⟩) (by assumption) ?_; rotate_left 1; (focus (intro wz hz; (try dsimp only at hz); (try simp only [List.getElem_toArray, List.getElem_cons_succ, List.getElem_cons_zero]); go_simp; (try (rw [if_neg (by (try simp only [ByteArray.size_append]); omega)])); try (with_reducible rfl); done)))
        try simp only [Act.put, List.getElem_toArray, List.getElem_cons_succ, List.getElem_cons_zero, List.setIfInBounds_toArray, List.set_cons_zero, List.set_cons_succ]
        (refine wpAnyH_take (i := 5) (v := ?_) rfl (by kernel_rfl) (by kernel_rfl) (by kernel_rfl) (fun _ _ _ h => h) (Or.inl ⟨by rfl, ?_⟩) (by assumption) ?_; rotate_left 1; (focus (intro wz hz; (try dsimp only at hz); (try simp only [List.getElem_toArray, List.getElem_cons_succ, List.getElem_cons_zero]); go_simp; (try (rw [if_neg (by (try simp only [ByteArray.size_append]); omega)])); try (with_reducible rfl); done)))
        try simp only [Act.put, List.getElem_toArray, List.getElem_cons_succ, List.getElem_cons_zero, List.setIfInBounds_toArray, List.set_cons_zero, List.set_cons_succ]
        refine wpAnyH_ready (rs := [6, 10]) (by kernel_rfl) (by simp) ?_
        refine AllReadyH.cons rfl (fun K hK => ?_) (AllReadyH.cons rfl (fun K hK => ?_) AllReadyH.nil)
        · ((try simp only [List.getElem_toArray, List.getElem_cons_succ, List.getElem_cons_zero]); go_simp; go_at_call 6; refine (g4.out q hlt _ (by (repeat (first | (with_reducible exact Below.refl _ _) | ((with_reducible refine below_alloc ?_ ?_ _); · (first | omega | (simp; done) | (simp; omega))) | ((with_reducible refine below_setCell ?_ ?_ _); · (first | omega | (simp; done) | (simp; omega))) | (with_reducible refine Below.drew ?_) | (with_reducible refine below_drewN ?_ _) | ((with_reducible refine below_call (by assumption) ?_ ?_); · (first | omega | (simp; done) | (simp; omega))))))).mono ?_; rintro e wn6 ⟨v5, rfl, ho5, hbn6⟩; obtain ⟨p5, c5, rfl⟩ := ho5.form; have hT6 : Below wr.heap.size wr wn6 := (by (repeat (first | (with_reducible exact Below.refl _ _) | ((with_reducible refine below_alloc ?_ ?_ _); · (first | omega | (simp; done) | (simp; omega))) | ((with_reducible refine below_setCell ?_ ?_ _); · (first | omega | (simp; done) | (simp; omega))) | (with_reducible refine Below.drew ?_) | (with_reducible refine below_drewN ?_ _) | ((with_reducible refine below_call (by assumption) ?_ ?_); · (first | omega | (simp; done) | (simp; omega)))))); have z6 := hT6.size; (try (have RW := row3_new hbn6; obtain ⟨⟨r0, r1, r2⟩, fr0, fr1, fr2⟩ := id RW)); (try (go_wp2_with fail)); refine hK.out _ _ (hout.out _ (by assumption)) (fun hHeld => ?_); clear hK K)
          try simp only [Act.put, List.getElem_toArray, List.getElem_cons_succ, List.getElem_cons_zero, List.setIfInBounds_toArray, List.set_cons_zero, List.set_cons_succ]
          (refine wpAnyH_take (i := 7) (v := ?_) rfl (by kernel_rfl) (by kernel_rfl) (by kernel_rfl) (fun _ _ _ h => h) (Or.inl ⟨by rfl, ?_⟩) (by assumption) ?_; rotate_left 1; (focus (intro wz hz; (try dsimp only at hz); (try simp only [List.getElem_toArray, List.getElem_cons_succ, List.getElem_cons_zero]); go_simp; (try (rw [if_neg (by (try simp only [ByteArray.size_append]); omega)])); try (with_reducible rfl); done)))
          try simp only [Act.put, List.getElem_toArray, List.getElem_cons_succ, List.getElem_cons_zero, List.setIfInBounds_toArray, List.set_cons_zero, List.set_cons_succ]
          (refine wpAnyH_take (i := 8) (v := ?_) rfl (by kernel_rfl) (by kernel_rfl) (by kernel_rfl) (fun _ _ _ h => h) (Or.inl ⟨by rfl, ?_⟩) (by assumption) ?_; rotate_left 1; (focus (intro wz hz; (try dsimp only at hz); (try simp only [List.getElem_toArray, List.getElem_cons_succ, List.getElem_cons_zero]); go_simp; (try (rw [if_neg (by (try simp only [ByteArray.size_append]); omega)])); try (with_reducible rfl); done)))
          try simp only [Act.put, List.getElem_toArray, List.getElem_cons_succ, List.getElem_cons_zero, List.setIfInBounds_toArray, List.set_cons_zero, List.set_cons_succ]
          (refine wpAnyH_take (i := 9) (v := ?_) rfl (by kernel_rfl) (by kernel_rfl) (by kernel_rfl) (fun _ _ _ h => h) (Or.inl ⟨by rfl, ?_⟩) (by assumption) ?_; rotate_left 1; (focus (intro wz hz; (try dsimp only at hz); (try simp only [List.getElem_toArray, List.getElem_cons_succ, List.getElem_cons_zero]); go_simp; (try (rw [if_neg (by (try simp only [ByteArray.size_append]); omega)])); try (with_reducible rfl); done)))
          try simp only [Act.put, List.getElem_toArray, List.getElem_cons_succ, List.getElem_cons_zero, List.setIfInBounds_toArray, List.set_cons_zero, List.set_cons_succ]
          (refine wpAnyH_ready (rs := [10]) (by kernel_rfl) (by simp) ?_; refine AllReadyH.cons rfl (fun K hK => ?_) AllReadyH.nil; (try simp only [List.getElem_toArray, List.getElem_cons_succ, List.getElem_cons_zero]); skip; go_simp; refine hK.out _ _ (hout.out _ (by (repeat (first | (with_reducible exact Below.refl _ _) | ((with_reducible refine below_alloc ?_ ?_ _); · (first | omega | (simp; done) | (simp; omega))) | ((with_reducible refine below_setCell ?_ ?_ _); · (first | omega | (simp; done) | (simp; omega))) | (with_reducible refine Below.drew ?_) | (with_reducible refine below_drewN ?_ _) | ((with_reducible refine below_call (by assumption) ?_ ?_); · (first | omega | (simp; done) | (simp; omega))))))) (fun hHeld => ?_); clear hK K)
          try simp only [Act.put, List.getElem_toArray, List.getElem_cons_succ, List.getElem_cons_zero, List.setIfInBounds_toArray, List.set_cons_zero, List.set_cons_succ]
          (refine wpAnyH_ready (rs := [11]) (by kernel_rfl) (by simp) ?_; refine AllReadyH.cons rfl (fun K hK => ?_) AllReadyH.nil; (try simp only [List.getElem_toArray, List.getElem_cons_succ, List.getElem_cons_zero]); skip; go_simp; refine hK.out _ _ (hout.out _ (by (repeat (first | (with_reducible exact Below.refl _ _) | ((with_reducible refine below_alloc ?_ ?_ _); · (first | omega | (simp; done) | (simp; omega))) | ((with_reducible refine below_setCell ?_ ?_ _); · (first | omega | (simp; done) | (simp; omega))) | (with_reducible refine Below.drew ?_) | (with_reducible refine below_drewN ?_ _) | ((with_reducible refine below_call (by assumption) ?_ ?_); · (first | omega | (simp; done) | (simp; omega))))))) (fun hHeld => ?_); clear hK K)
          try simp only [Act.put, List.getElem_toArray, List.getElem_cons_succ, List.getElem_cons_zero, List.setIfInBounds_toArray, List.set_cons_zero, List.set_cons_succ]
          (refine wpAnyH_take (i := 12) (v := ?_) rfl (by kernel_rfl) (by kernel_rfl) (by kernel_rfl) (fun _ _ _ h => h) (Or.inl ⟨by rfl, ?_⟩) (by assumption) ?_; rotate_left 1; (focus (intro wz hz; (try dsimp only at hz); (try simp only [List.getElem_toArray, List.getElem_cons_succ, List.getElem_cons_zero]); go_simp; (try (rw [if_neg (by (try simp only [ByteArray.size_append]); omega)])); try (with_reducible rfl); done)))
          try simp only [Act.put, List.getElem_toArray, List.getElem_cons_succ, List.getElem_cons_zero, List.setIfInBounds_toArray, List.set_cons_zero, List.set_cons_succ]
          refine wpAnyH_done (by kernel_rfl) ?_ _
          go_wp2_with fail; go_meet; first | exact ⟨wr.heap.size, p5, c5, rfl, rfl, Nat.le_refl _, ((RW.set0 _).set1 _).set2 _, (((ho5.set (p := ⟨wr.heap.size, 0, none⟩) (by simp) _).set (p := ⟨wr.heap.size, 1, none⟩) (by simp) _).set (p := ⟨wr.heap.size, 2, none⟩) (by simp) _).reads itC_len, by (repeat (first | (with_reducible exact Below.refl _ _) | ((with_reducible refine below_alloc ?_ ?_ _); · (first | omega | (simp; done) | (simp; omega))) | ((with_reducible refine below_setCell ?_ ?_ _); · (first | omega | (simp; done) | (simp; omega))) | (with_reducible refine Below.drew ?_) | (with_reducible refine below_drewN ?_ _) | ((with_reducible refine below_call (by assumption) ?_ ?_); · (first | omega | (simp; done) | (simp; omega)))))⟩ | exact ⟨wn6.heap.size, p5, c5, rfl, rfl, z6, by simp [Row3, go_sem], (ho5.reads itC_len).call (by (repeat (first | (with_reducible exact Below.refl _ _) | ((with_reducible refine below_alloc ?_ ?_ _); · (first | omega | (simp; done) | (simp; omega))) | ((with_reducible refine below_setCell ?_ ?_ _); · (first | omega | (simp; done) | (simp; omega))) | (with_reducible refine Below.drew ?_) | (with_reducible refine below_drewN ?_ _) | ((with_reducible refine below_call (by assumption) ?_ ?_); · (first | omega | (simp; done) | (simp; omega)))))), by (repeat (first | (with_reducible exact Below.refl _ _) | ((with_reducible refine below_alloc ?_ ?_ _); · (first | omega | (simp; done) | (simp; omega))) | ((with_reducible refine below_setCell ?_ ?_ _); · (first | omega | (simp; done) | (simp; omega))) | (with_reducible refine Below.drew ?_) | (with_reducible refine below_drewN ?_ _) | ((with_reducible refine below_call (by assumption) ?_ ?_); · (first | omega | (simp; done) | (simp; omega)))))⟩
        · ((try simp only [List.getElem_toArray, List.getElem_cons_succ, List.getElem_cons_zero]); skip; go_simp; refine hK.out _ _ (hout.out _ (by (repeat (first | (with_reducible exact Below.refl _ _) | ((with_reducible refine below_alloc ?_ ?_ _); · (first | omega | (simp; done) | (simp; omega))) | ((with_reducible refine below_setCell ?_ ?_ _); · (first | omega | (simp; done) | (simp; omega))) | (with_reducible refine Below.drew ?_) | (with_reducible refine below_drewN ?_ _) | ((with_reducible refine below_call (by assumption) ?_ ?_); · (first | omega | (simp; done) | (simp; omega))))))) (fun hHeld => ?_); clear hK K)
          try simp only [Act.put, List.getElem_toArray, List.getElem_cons_succ, List.getElem_cons_zero, List.setIfInBounds_toArray, List.set_cons_zero, List.set_cons_succ]
          (refine wpAnyH_ready (rs := [6]) (by kernel_rfl) (by simp) ?_; refine AllReadyH.cons rfl (fun K hK => ?_) AllReadyH.nil; (try simp only [List.getElem_toArray, List.getElem_cons_succ, List.getElem_cons_zero]); go_simp; go_at_call 6; refine (g4.out q hlt _ (by (repeat (first | (with_reducible exact Below.refl _ _) | ((with_reducible refine below_alloc ?_ ?_ _); · (first | omega | (simp; done) | (simp; omega))) | ((with_reducible refine below_setCell ?_ ?_ _); · (first | omega | (simp; done) | (simp; omega))) | (with_reducible refine Below.drew ?_) | (with_reducible refine below_drewN ?_ _) | ((with_reducible refine below_call (by assumption) ?_ ?_); · (first | omega | (simp; done) | (simp; omega))))))).mono ?_; rintro e wn6 ⟨v5, rfl, ho5, hbn6⟩; obtain ⟨p5, c5, rfl⟩ := ho5.form; have hT6 : Below wr.heap.size wr wn6 := (by (repeat (first | (with_reducible exact Below.refl _ _) | ((with_reducible refine below_alloc ?_ ?_ _); · (first | omega | (simp; done) | (simp; omega))) | ((with_reducible refine below_setCell ?_ ?_ _); · (first | omega | (simp; done) | (simp; omega))) | (with_reducible refine Below.drew ?_) | (with_reducible refine below_drewN ?_ _) | ((with_reducible refine below_call (by assumption) ?_ ?_); · (first | omega | (simp; done) | (simp; omega)))))); have z6 := hT6.size; (try (have RW := row3_new hbn6; obtain ⟨⟨r0, r1, r2⟩, fr0, fr1, fr2⟩ := id RW)); (try (go_wp2_with fail)); refine hK.out _ _ (hout.out _ (by assumption)) (fun hHeld => ?_); clear hK K)
          try simp only [Act.put, List.getElem_toArray, List.getElem_cons_succ, List.getElem_cons_zero, List.setIfInBounds_toArray, List.set_cons_zero, List.set_cons_succ]
          (refine wpAnyH_take (i := 7) (v := ?_) rfl (by kernel_rfl) (by kernel_rfl) (by kernel_rfl) (fun _ _ _ h => h) (Or.inl ⟨by rfl, ?_⟩) (by assumption) ?_; rotate_left 1; (focus (intro wz hz; (try dsimp only at hz); (try simp only [List.getElem_toArray, List.getElem_cons_succ, List.getElem_cons_zero]); go_simp; (try (rw [if_neg (by (try simp only [ByteArray.size_append]); omega)])); try (with_reducible rfl); done)))
          try simp only [Act.put, List.getElem_toArray, List.getElem_cons_succ, List.getElem_cons_zero, List.setIfInBounds_toArray, List.set_cons_zero, List.set_cons_succ]
          (refine wpAnyH_take (i := 8) (v := ?_) rfl (by kernel_rfl) (by kernel_rfl) (by kernel_rfl) (fun _ _ _ h => h) (Or.inl ⟨by rfl, ?_⟩) (by assumption) ?_; rotate_left 1; (focus (intro wz hz; (try dsimp only at hz); (try simp only [List.getElem_toArray, List.getElem_cons_succ, List.getElem_cons_zero]); go_simp; (try (rw [if_neg (by (try simp only [ByteArray.size_append]); omega)])); try (with_reducible rfl); done)))
          try simp only [Act.put, List.getElem_toArray, List.getElem_cons_succ, List.getElem_cons_zero, List.setIfInBounds_toArray, List.set_cons_zero, List.set_cons_succ]
          (refine wpAnyH_take (i := 9) (v := ?_) rfl (by kernel_rfl) (by kernel_rfl) (by kernel_rfl) (fun _ _ _ h => h) (Or.inl ⟨by rfl, ?_⟩) (by assumption) ?_; rotate_left 1; (focus (intro wz hz; (try dsimp only at hz); (try simp only [List.getElem_toArray, List.getElem_cons_succ, List.getElem_cons_zero]); go_simp; (try (rw [if_neg (by (try simp only [ByteArray.size_append]); omega)])); try (with_reducible rfl); done)))
          try simp only [Act.put, List.getElem_toArray, List.getElem_cons_succ, List.getElem_cons_zero, List.setIfInBounds_toArray, List.set_cons_zero, List.set_cons_succ]
          (refine wpAnyH_ready (rs := [11]) (by kernel_rfl) (by simp) ?_; refine AllReadyH.cons rfl (fun K hK => ?_) AllReadyH.nil; (try simp only [List.getElem_toArray, List.getElem_cons_succ, List.getElem_cons_zero]); skip; go_simp; refine hK.out _ _ (hout.out _ (by (repeat (first | (with_reducible exact Below.refl _ _) | ((with_reducible refine below_alloc ?_ ?_ _); · (first | omega | (simp; done) | (simp; omega))) | ((with_reducible refine below_setCell ?_ ?_ _); · (first | omega | (simp; done) | (simp; omega))) | (with_reducible refine Below.drew ?_) | (with_reducible refine below_drewN ?_ _) | ((with_reducible refine below_call (by assumption) ?_ ?_); · (first | omega | (simp; done) | (simp; omega))))))) (fun hHeld => ?_); clear hK K)
          try simp only [Act.put, List.getElem_toArray, List.getElem_cons_succ, List.getElem_cons_zero, List.setIfInBounds_toArray, List.set_cons_zero, List.set_cons_succ]
          (refine wpAnyH_take (i := 12) (v := ?_) rfl (by kernel_rfl) (by kernel_rfl) (by kernel_rfl) (fun _ _ _ h => h) (Or.inl ⟨by rfl, ?_⟩) (by assumption) ?_; rotate_left 1; (focus (intro wz hz; (try dsimp only at hz); (try simp only [List.getElem_toArray, List.getElem_cons_succ, List.getElem_cons_zero]); go_simp; (try (rw [if_neg (by (try simp only [ByteArray.size_append]); omega)])); try (with_reducible rfl); done)))
          try simp only [Act.put, List.getElem_toArray, List.getElem_cons_succ, List.getElem_cons_zero, List.setIfInBounds_toArray, List.set_cons_zero, List.set_cons_succ]
          refine wpAnyH_done (by kernel_rfl) ?_ _
          go_wp2_with fail; go_meet; first | exact ⟨wr.heap.size, p5, c5, rfl, rfl, Nat.le_refl _, ((RW.set0 _).set1 _).set2 _, (((ho5.set (p := ⟨wr.heap.size, 0, none⟩) (by simp) _).set (p := ⟨wr.heap.size, 1, none⟩) (by simp) _).set (p := ⟨wr.heap.size, 2, none⟩) (by simp) _).reads itC_len, by (repeat (first | (with_reducible exact Below.refl _ _) | ((with_reducible refine below_alloc ?_ ?_ _); · (first | omega | (simp; done) | (simp; omega))) | ((with_reducible refine below_setCell ?_ ?_ _); · (first | omega | (simp; done) | (simp; omega))) | (with_reducible refine Below.drew ?_) | (with_reducible refine below_drewN ?_ _) | ((with_reducible refine below_call (by assumption) ?_ ?_); · (first | omega | (simp; done) | (simp; omega)))))⟩ | exact ⟨wn6.heap.size, p5, c5, rfl, rfl, z6, by simp [Row3, go_sem], (ho5.reads itC_len).call (by (repeat (first | (with_reducible exact Below.refl _ _) | ((with_reducible refine below_alloc ?_ ?_ _); · (first | omega | (simp; done) | (simp; omega))) | ((with_reducible refine below_setCell ?_ ?_ _); · (first | omega | (simp; done) | (simp; omega))) | (with_reducible refine Below.drew ?_) | (with_reducible refine below_drewN ?_ _) | ((with_reducible refine below_call (by assumption) ?_ ?_); · (first | omega | (simp; done) | (simp; omega)))))), by (repeat (first | (with_reducible exact Below.refl _ _) | ((with_reducible refine below_alloc ?_ ?_ _); · (first | omega | (simp; done) | (simp; omega))) | ((with_reducible refine below_setCell ?_ ?_ _); · (first | omega | (simp; done) | (simp; omega))) | (with_reducible refine Below.drew ?_) | (with_reducible refine below_drewN ?_ _) | ((with_reducible refine below_call (by assumption) ?_ ?_); · (first | omega | (simp; done) | (simp; omega)))))⟩
      case rest =>
      obtain ⟨bw, p5, c5, rfl, rfl, lbw, RS, OR, hS⟩ := hcut
      have R8 := Lib.hid RS
      have O8 := Lib.hid OR
      have N8 := Lib.hid (HN.out.call hS)
      have Z8 := Lib.hid (HZ.out.call hS lZ)
      have NB : some bw ≠ (Value.slice pn (nZ q).length cn).ownBlock := by
        intro e
        have := (World.ownsRow.lt HN.out bw e.symm).2
        omega
      have B8 := below_call hS zr hB
      have lr := RS.lt
      have h1o : ¬ (1 : Int) < (oZ q).length := by have := gS.out.2.2.2.2.2.2.1 q hlt; omega
      have NN := Lib.hid (gS.out.2.2.2.2.2.1 q hlt)
      have nl := gS.out.2.2.2.2.2.2.2.1 q
      obtain ⟨⟨r0, r1, r2⟩, fr0, fr1, fr2⟩ := RS
      clear OR hS HN HZ hout
      go_wp2_with fail
      refine (g5.out (q + 1) _).mono ?_; rintro e w9 ⟨rfl, hb9⟩
      have R9 := Lib.hid (R8.out.call hb9 lr)
      have O9 := Lib.hid (O8.out.call hb9)
      have N9 := Lib.hid (N8.out.call hb9)
      have Z9 := Lib.hid (Z8.out.call hb9 Z8.out.lt)
      have B9 : Below W0.heap.size W0 w9 := below_call hb9 B8.size B8
      have z9 := hb9.size
      have lz9 := Z9.out.lt
      have hbz : bw ≠ W0.heap.size := by omega
      have hbz' : W0.heap.size ≠ bw := by omega
      clear r0 r1 r2 fr0 fr1 fr2 R8 O8 N8 Z8
      obtain ⟨⟨r0, r1, r2⟩, fr0, fr1, fr2⟩ := R9.out
      go_wp2
      refine wp_region_held_drew (S := fun W' => W'.cell? ⟨bw, 0, none⟩ = some (.string (sZ (q + 1)).buf) ∧ W'.cell? ⟨bw, 1, none⟩ = some (.int .i64 (sZ (q + 1)).bad) ∧ W'.cell? ⟨bw, 2, none⟩ = some (.int .i64 (sZ (q + 1)).seen)) (by kernel_rfl) (⟨by simp [r0], by simp [r1], by simp [r2]⟩) (fun hHeld => ?_)
      (refine wpAnyH_take (i := 0) (v := ?_) rfl (by kernel_rfl) (by kernel_rfl) (by kernel_rfl) (fun _ _ _ h => h) (Or.inl ⟨by rfl, ?_⟩) (by assumption) ?_; rotate_left 1; (focus (intro wz hz; (try dsimp only at hz); (try simp only [List.getElem_toArray, List.getElem_cons_succ, List.getElem_cons_zero]); go_simp; (try (rw [if_neg (by (try simp only [ByteArray.size_append]); omega)])); try (with_reducible rfl); done)))
      try simp only [Act.put, List.getElem_toArray, List.getElem_cons_succ, List.getElem_cons_zero, List.setIfInBounds_toArray, List.set_cons_zero, List.set_cons_succ]
      (refine wpAnyH_take (i := 1) (v := ?_) rfl (by kernel_rfl) (by kernel_rfl) (by kernel_rfl) (fun _ _ _ h => h) (Or.inl ⟨by rfl, ?_⟩) (by assumption) ?_; rotate_left 1; (focus (intro wz hz; (try dsimp only at hz); (try simp only [List.getElem_toArray, List.getElem_cons_succ, List.getElem_cons_zero]); go_simp; (try (rw [if_neg (by (try simp only [ByteArray.size_append]); omega)])); try (with_reducible rfl); done)))
      try simp only [Act.put, List.getElem_toArray, List.getElem_cons_succ, List.getElem_cons_zero, List.setIfInBounds_toArray, List.set_cons_zero, List.set_cons_succ]
      (refine wpAnyH_take (i := 2) (v := ?_) rfl (by kernel_rfl) (by kernel_rfl) (by kernel_rfl) (fun _ _ _ h => h) (Or.inl ⟨by rfl, ?_⟩) (by assumption) ?_; rotate_left 1; (focus (intro wz hz; (try dsimp only at hz); (try simp only [List.getElem_toArray, List.getElem_cons_succ, List.getElem_cons_zero]); go_simp; (try (rw [if_neg (by (try simp only [ByteArray.size_append]); omega)])); try (with_reducible rfl); done)))
      try simp only [Act.put, List.getElem_toArray, List.getElem_cons_succ, List.getElem_cons_zero, List.setIfInBounds_toArray, List.set_cons_zero, List.set_cons_succ]
      (refine wpAnyH_ready (rs := [3]) (by kernel_rfl) (by simp) ?_; refine AllReadyH.cons rfl (fun K hK => ?_) AllReadyH.nil; (try simp only [List.getElem_toArray, List.getElem_cons_succ, List.getElem_cons_zero]); rw [if_pos (by rfl)]; refine wp_app_row lays_own itC_len itC_one (.tmp 74) (.tmp 75) rfl (W0.heap.size + 1) (nZ q) (oZ q) (.slice pn (nZ q).length cn) (.slice p5 (oZ q).length c5) (by simp [Act.eval, Act.put]) (N9.out.call (Below.drew (Below.refl _ _))) (by simp [Act.eval, Act.put]) (O9.out.call (Below.drew (Below.refl _ _))) (by omega) (by simp; omega) ?_; intro v7 w7 ho7 hb7 hg7; obtain ⟨p7, c7, rfl⟩ := ho7.form; have b7 := Below.trans (Below.drew (Below.refl (W0.heap.size + 1) w9)) hb7; have Z7 := row3_below Z9.out b7 (Nat.lt_succ_self _); obtain ⟨⟨d0, d1, d2⟩, fd0, fd1, fd2⟩ := id Z7; have R7 := (R9.out.call (Below.drew (Below.refl _ _)) R9.out.lt).grown hg7 R9.out.lt NB; obtain ⟨⟨x0, x1, x2⟩, -⟩ := id R7; clear hHeld; refine hK.out _ _ (⟨x0, x1, x2⟩) (fun hHeld => ?_); clear hK K)
      try simp only [Act.put, List.getElem_toArray, List.getElem_cons_succ, List.getElem_cons_zero, List.setIfInBounds_toArray, List.set_cons_zero, List.set_cons_succ]
      (refine wpAnyH_ready (rs := [4]) (by kernel_rfl) (by simp) ?_; refine AllReadyH.cons rfl (fun K hK => ?_) AllReadyH.nil; (try simp only [List.getElem_toArray, List.getElem_cons_succ, List.getElem_cons_zero]); skip; go_simp; refine hK.out _ _ (⟨by simp [go_sem, x0, hbz, hbz'], by simp [go_sem, x1, hbz, hbz'], by simp [go_sem, x2, hbz, hbz']⟩) (fun hHeld => ?_); clear hK K)
      try simp only [Act.put, List.getElem_toArray, List.getElem_cons_succ, List.getElem_cons_zero, List.setIfInBounds_toArray, List.set_cons_zero, List.set_cons_succ]
      (refine wpAnyH_take (i := 5) (v := ?_) rfl (by kernel_rfl) (by kernel_rfl) (by kernel_rfl) (fun _ _ _ h => h) (Or.inl ⟨by rfl, ?_⟩) (by assumption) ?_; rotate_left 1; (focus (intro wz hz; (try dsimp only at hz); (try simp only [List.getElem_toArray, List.getElem_cons_succ, List.getElem_cons_zero]); go_simp; (try (rw [if_neg (by (try simp only [ByteArray.size_append]); omega)])); try (with_reducible rfl); done)))
      try simp only [Act.put, List.getElem_toArray, List.getElem_cons_succ, List.getElem_cons_zero, List.setIfInBounds_toArray, List.set_cons_zero, List.set_cons_succ]
      refine wpAnyH_done (by kernel_rfl) ?_ _
      have ZS := ((Z7.set0 (.string (sZ (q + 1)).buf)).set1 (.int .i64 (sZ (q + 1)).bad)).set2 (.int .i64 (sZ (q + 1)).seen)
      have NS := ((ho7.set (p := ⟨W0.heap.size, 0, none⟩) (Nat.lt_succ_self _) (.string (sZ (q + 1)).buf)).set (p := ⟨W0.heap.size, 1, none⟩) (Nat.lt_succ_self _) (.int .i64 (sZ (q + 1)).bad)).set (p := ⟨W0.heap.size, 2, none⟩) (Nat.lt_succ_self _) (.int .i64 (sZ (q + 1)).seen)
      have BS : Below W0.heap.size W0 (((w7.setCell ⟨W0.heap.size, 0, none⟩ (.string (sZ (q + 1)).buf)).setCell ⟨W0.heap.size, 1, none⟩ (.int .i64 (sZ (q + 1)).bad)).setCell ⟨W0.heap.size, 2, none⟩ (.int .i64 (sZ (q + 1)).seen)) :=
        (((B9.trans (b7.mono (Nat.le_succ _))).setCell (p := ⟨W0.heap.size, 0, none⟩) (Nat.le_refl _) _).setCell (p := ⟨W0.heap.size, 1, none⟩) (Nat.le_refl _) _).setCell (p := ⟨W0.heap.size, 2, none⟩) (Nat.le_refl _) _
      rw [← NN.out] at NS
      have el : (nZ q).length + (oZ q).length = (nZ (q + 1)).length := by rw [NN.out, List.length_append]
      clear d0 d1 d2 fd0 fd1 fd2 r0 r1 r2 fr0 fr1 fr2 hHeld
      go_wp2
      go_roundw
      case rel => exact ⟨q + 1, by go_num, by omega, by rw [el]; exact NS, ZS, BS⟩
      case measure => simp [intOf]; omega
    · obtain rfl : q = b.size := by omega
      have BR : Below w.heap.size w wr := below_call hB B0.size B0
      have zR := BR.size
      have PX := Lib.hid (X0.out.call hB X0.out.lt)
      have PY := Lib.hid (Y0.out.call hB Y0.out.lt)
      have Q1 := Lib.hid ((P1.out.call hB).reads itC_len)
      have Q2 := Lib.hid ((P2.out.call hB).reads itC_len)
      have Q3 := Lib.hid ((P3.out.call hB).reads itC_len)
      have QN := Lib.hid (HN.out.reads itC_len)
      have hl2 := gS.out.2.2.2.2.2.2.2.1 b.size
      have qe : ∀ W, (binOp .eql 25 (.agg #[.string (sZ b.size).buf, .int .i64 (sZ b.size).bad, .int .i64 (sZ b.size).seen]) (.agg #[.string (sZ b.size).buf, .int .i64 (sZ b.size).bad, .int .i64 (sZ b.size).seen])).run Tryd.prog W = .ok (.bool true) W := fun W => by
        have h := eq_dst (sZ b.size) (sZ b.size) W
        simpa using h
      have ci := Lib.hid (fun v W (h : IsR 9 itC W v (nZ b.size)) => items_any v (nZ b.size) W h (by omega))
      have cs := Lib.hid (fun v1 v2 W h1 h2 => sameItems_yes v1 v2 (nZ b.size) W h1 h2 (by omega))
      have sn := gS.out.2.2.2.2.2.2.2.2
      have ll : L1.length + L2.length = (nZ b.size).length := by rw [I2.out, List.length_append]
      clear X0 Y0 P1 P2 P3 HN g4 g5
      go_wp2_with (at_builtin; first
        | (refine app_row lays_own itC_len itC_one rfl _ _ rfl wr.heap.size [] L1 _ _ rfl (OwnR.made0 wr _ (Nat.le_refl _)) rfl (Q2.out.call (below_alloc (Nat.le_refl _) (Below.refl _ _) _)) (by simp; omega) (by simp) ?_; intro v5 w5 ho5 hb5 _ _; obtain ⟨p5, c5, rfl⟩ := ho5.form; have B5 : Below wr.heap.size wr w5 := (below_alloc (Nat.le_refl _) (Below.refl _ _) _).trans hb5; have z5 := B5.size; rw [List.nil_append] at ho5)
        | (refine app_row lays_own itC_len itC_one rfl _ _ rfl wr.heap.size L1 L2 _ _ rfl ho5 rfl (Q3.out.call B5) (by omega) z5 ?_; intro v6 w6 ho6 hb6 _ _; obtain ⟨p6, c6, rfl⟩ := ho6.form; have B6 : Below wr.heap.size wr w6 := B5.trans hb6; obtain ⟨⟨x0, x1, x2⟩, fx0, fx1, fx2⟩ := PX.out.call B6 PX.out.lt; obtain ⟨⟨y0, y1, y2⟩, fy0, fy1, fy2⟩ := PY.out.call B6 PY.out.lt; obtain ⟨⟨d0, d1, d2⟩, fd0, fd1, fd2⟩ := HZ.out.call B6 HZ.out.lt; have QT := Lib.hid (ho6.reads itC_len); rw [← I2.out] at QT; clear ho5 ho6 hb5 hb6 B5 z5 Q2 Q3))
      have b6 := B6
      have z6 := b6.size
      have B6w : Below w.heap.size w w6 := below_call B6 BR.size BR
      refine (ci.out _ _ (Q1.out.call B6)).mono ?_; rintro e w7 ⟨v7, rfl, o7, hb7⟩
      clear x0 x1 x2 fx0 fx1 fx2 y0 y1 y2 fy0 fy1 fy2 d0 d1 d2 fd0 fd1 fd2 qe
      go_wp2_with fail
      refine (ci.out _ _ (QT.out.call hb7)).mono ?_; rintro e w8 ⟨v8, rfl, o8, hb8⟩
      have R7 := (o7.reads itC_len).call hb8
      have B8 : Below w6.heap.size w6 w8 := hb7.trans (hb8.mono hb7.size)
      go_wp2_with fail
      refine (cs.out _ _ _ R7 (o8.reads itC_len)).mono ?_; rintro e w9 ⟨rfl, hb9⟩
      have B9 : Below w6.heap.size w6 w9 := B8.trans (hb9.mono B8.size)
      have B9r : Below wr.heap.size wr w9 := below_call B9 b6.size b6
      clear R7 o7 o8 hb7 hb8 hb9 B8
      go_wp2_with fail
      refine (ci.out _ _ (Q1.out.call B9r)).mono ?_; rintro e w10 ⟨v10, rfl, o10, hb10⟩
      have B10r : Below wr.heap.size wr w10 := below_call hb10 B9r.size B9r
      go_wp2_with fail
      refine (ci.out _ _ (QN.out.call B10r)).mono ?_; rintro e w11 ⟨v11, rfl, o11, hb11⟩
      have R10 := (o10.reads itC_len).call hb11
      have B11r : Below wr.heap.size wr w11 := below_call hb11 B10r.size B10r
      go_wp2_with fail
      refine (cs.out _ _ _ R10 (o11.reads itC_len)).mono ?_; rintro e w12 ⟨rfl, hb12⟩
      have B12r : Below wr.heap.size wr w12 := below_call hb12 B11r.size B11r
      have B12 : Below w.heap.size w w12 := below_call B12r BR.size BR
      obtain ⟨⟨x0, x1, x2⟩, fx0, fx1, fx2⟩ := PX.out.call B12r PX.out.lt
      clear R10 o10 o11 hb10 hb11 hb12 B9 B9r B10r B11r
      go_wp2_with fail
      refine (aw.out _ B12).mono ?_; rintro e w13 ⟨rfl, hb13⟩
      have B13 : Below w.heap.size w w13 := below_call hb13 B12.size B12
      go_wp2
      go_ret
      exact ⟨rfl, B13⟩

set_option maxRecDepth 100000 in
theorem dpieces_lifted (os : Os) (started : os.Started) (H : Type) (enc : TypeId × Value → H) :
    ReturnsInHanded {} Tryd.checked os 3 .any (fun w args => (Rows.deframePiecesSpec.pre enc Tryd.prog Tryd.f3 Rows.deframePiecesRow.domain false w args ∧ laidMetH Tryd.prog laidU8 w) ∧ sizedMet enc Tryd.prog Tryd.f3 (OpenSpec.ofChange Rows.deframePiecesSpec) false w args)
      (Rows.deframePiecesSpec.post enc Tryd.prog Tryd.f3 false true false false) := by
  refine handed_shape (Pre' := fun w args => (Rows.deframePiecesSpec.pre enc Tryd.prog Tryd.f3 Rows.deframePiecesRow.domain false w args ∧ (laidMetH Tryd.prog laidU8 w ∧ Maxs w)) ∧ sizedMet enc Tryd.prog Tryd.f3 (OpenSpec.ofChange Rows.deframePiecesSpec) false w args) (fun w args hs h => ⟨⟨h.1.1, h.1.2, maxs_of_shape hs⟩, h.2⟩) (fun w args h => ⟨⟨h.1.1, h.1.2.1⟩, h.2⟩) ?_
  refine returnsInHanded_of_change_and (C := Tryd.checked) (X := fun w _ => laidMetH Tryd.prog laidU8 w ∧ Maxs w) (fun _ _ _ hh h => ⟨h.1.of_heap hh, h.2.of_heap hh⟩) own started (by kernel_rfl) Tryd.func3
    (ChangeSpec.witness_shaped (enc := enc) (C := Tryd.checked) (os := os) (X := fun w _ => laidMetH Tryd.prog laidU8 w ∧ Maxs w) false (World.laidAll Tryd.prog os laidU8) #[.string ⟨#[]⟩, .int .u8 0] 8 (World.laidAll_os _ _ _)
      (World.shaped_of_ZipB (by kernel_rfl) (by kernel_rfl)) (by kernel_rfl) (by kernel_rfl) (by kernel_rfl)
      ⟨by rw [MakeChecks.laidMetH_plain _ _ _ (by kernel_rfl)]; exact laidMet_laidAll _ (by kernel_rfl) (by kernel_rfl), maxs_laid os⟩) ?_
  intro W base args ds gs before hval0 hW _ _ hLM _
  obtain ⟨hL, hM⟩ := hLM
  have hval : ∀ (j : Nat) t v, Tryd.f3.params[j]? = some t → args[j]? = some v → Value.okWide Tryd.prog W .any base t v := hval0
  have hW' := hW
  obtain ⟨p, q, hA0, hV, rfl, hfz, hnd⟩ := hW
  have hA : DataW.TrodAll enc Tryd.prog W 0 (fun _ => true) true Tryd.f3.params.toList args.toList ds p := hA0
  rw [Tryd.params3] at hA hval
  obtain ⟨v0, vs0, d0, ds0, p0, q0, hargs, rfl, rfl, h0, r0⟩ := trodAll_cons hA
  obtain ⟨v1, vs1, d1, ds1, p1, q1, rfl, rfl, rfl, h1, r1⟩ := trodAll_cons r0
  obtain ⟨rfl, rfl, rfl⟩ := trodAll_nil r1
  obtain rfl : args = #[v0, v1] := by cases args; simp_all
  obtain ⟨rfl, rfl⟩ := trodVars_none hV
  obtain ⟨b, rfl, rfl, rfl, _⟩ := Go.ChangeMaps.open_string Tryd.underlying9 (hval 0 9 v0 rfl rfl) h0
  obtain ⟨m, rfl, rfl, rfl, wm⟩ := open_int Tryd.underlying5 (hval 1 5 v1 rfl rfl) h1
  have hm : 0 ≤ m ∧ m ≤ 255 := by simpa [Lit.wf, IntKind.min, IntKind.max, IntKind.signed, IntKind.bits] using wm
  refine (pieces_walk b m W ⟨tabs_of_laid hL, hM⟩ hm.1 hm.2).mono fun e W' ⟨he, hb⟩ => ?_
  subst he
  exact ⟨_, rfl, law_post rfl rfl Tryd.underlying4 (by kernel_rfl) rfl hW' hb⟩
theorem dpieces_holds : Rows.DeframePiecesSaid :=
  OpenClaim.holds_of_wide 3 Tryd.f3 rfl rfl rfl rfl rfl rfl rfl ⟨rfl, rfl, rfl, rfl, rfl⟩ rfl rfl rfl rfl rfl (by kernel_rfl) Tryd.func3 (by kernel_rfl)
    (of_decide_eq_true (by kernel_rfl)) (by unfold Func.isWrapper; first | (rw [if_pos (by decide +kernel)]; kernel_rfl) | (rw [if_neg (by decide +kernel)]; exact ⟨rfl, rfl⟩))
    (fun os started H enc _ => dpieces_lifted os started H enc)
theorem dpieces_card : Rows.DeframePiecesCardSaid :=
  Claim7.holds_tied_plain_at .later [] [.data, .pinned] true Rows.deframePiecesCard.stood.harness false dpieces_holds (fun _ h => by cases h) (by kernel_rfl) (fun _ h => by cases h) deframePieces_row_tie rfl ⟨rfl, rfl⟩ (by kernel_rfl) rfl
    (fun f fn hf hfn => by
      obtain rfl : f = 3 := Option.some.inj ((show Tryd.prog.funcNamed "callboy/callboylaw12.DeframePieces" = some 3 by kernel_rfl).symm.trans hf) |>.symm
      obtain rfl : fn = Tryd.f3 := (Option.some.inj (Tryd.func3.symm.trans hfn)).symm
      exact ⟨by kernel_rfl, fun j t ht => by
        rw [Tryd.params3] at ht
        have hm : t ∈ [9, 5] := by simpa using Array.mem_of_getElem? ht
        have hall : ([9, 5].all fun u => !Tryd.prog.wantsStandIn u) = true := by kernel_rfl
        exact (show Tryd.prog.wantsStandIn t = false by simpa using List.all_eq_true.1 hall t hm)⟩)
    (by kernel_rfl)
end Go.Proofs.YtackinamkibmlaaDoor
