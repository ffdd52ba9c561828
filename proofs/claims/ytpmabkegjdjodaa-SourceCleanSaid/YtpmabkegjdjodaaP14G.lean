/- Layer 14, the program's: slices.Insert of one entry. -/
import Derived.Test.YtpmabkegjdjodaaP14D
import Derived.Shelf.RegionOpenPlain
import Derived.WalkKit
import Derived.Lib.Overlaps
import Derived.Lib.AppendZerosOnto
import Derived.Laws.NewBlocks
namespace Go.Proofs.Ytpmabkegjdjodaa
open Go.RowKit
set_option linter.unusedVariables false
set_option linter.unusedSimpArgs false

/-- what append lays asks nothing of the second argument's name -/
theorem append_ty {P : Program} {t tx e : TypeId} (h1 : P.underlying t = some (.slice e)) (h2 : P.underlying tx = some (.slice e)) (ty : TypeId) (b : Option Addr) (n c : Nat) (x : Value) (w : World) : (Builtin.append_ #[t, tx] ty #[.slice b n c, x]).run P w = (Builtin.append_ #[t, t] ty #[.slice b n c, x]).run P w := by
  simp only [Builtin.append_, List.getElem?_toArray, List.getElem?_cons_succ, List.getElem?_cons_zero, Sem.run_bind, run_underlying h1, run_underlying h2, Result.andThen_ok]
/-- where a shifted row stands: what was ahead, the new one, what was behind, and the rest -/
theorem row_in {α : Type} {z : Nat} {cs : α → List Value} (hz : ∀ x, (cs x).length = z) (L : List α) (x : α) (i : Nat) (hi : i ≤ L.length) (rest : List Value) :
    ((L.take i).flatMap cs ++ (cs x ++ ((L.drop i).flatMap cs ++ rest))).take ((L.take i ++ x :: L.drop i).length * z) = (L.take i ++ x :: L.drop i).flatMap cs := by
  have e : (L.take i).flatMap cs ++ (cs x ++ ((L.drop i).flatMap cs ++ rest)) = (L.take i ++ x :: L.drop i).flatMap cs ++ rest := by
    rw [List.flatMap_append, List.flatMap_cons]
    simp only [List.append_assoc]
  rw [e, List.take_append_of_le_length (by rw [flat_sz hz]; exact Nat.le_refl _), List.take_of_length_le (by rw [flat_sz hz]; exact Nat.le_refl _)]
theorem ins_len {α : Type} (L : List α) (x : α) (i : Nat) (hi : i ≤ L.length) : (L.take i ++ x :: L.drop i).length = L.length + 1 := by
  rw [List.length_append, List.length_cons, List.length_take, List.length_drop]
  omega
/-- the two copies of a shifted row -/
theorem row_shift {α : Type} {z : Nat} {cs : α → List Value} (hz : ∀ x, (cs x).length = z) (L : List α) (x : α) (i cap : Nat) (hi : i ≤ L.length) (hroom : L.length + 1 ≤ cap) (cur : List Value) (hs : cur.length = cap * z) (ht : cur.take (L.length * z) = L.flatMap cs) :
    (splice (splice cur ((i + 1) * z) ((L.drop i).flatMap cs)) (i * z) (cs x)).take ((L.length + 1) * z) = (L.take i ++ x :: L.drop i).flatMap cs := by
  have h1 : i * z ≤ cap * z := Nat.mul_le_mul_right z (by omega)
  have h2 : (i + 1) * z ≤ cap * z := Nat.mul_le_mul_right z (by omega)
  have h3 : (i + 1) * z = i * z + z := Nat.succ_mul i z
  have e1 : (splice cur ((i + 1) * z) ((L.drop i).flatMap cs)).take (i * z) = (L.take i).flatMap cs := by
    rw [splice_take (by omega) (by rw [hs]; exact h2), ← flat_take hz, ← ht, List.take_take, Nat.min_eq_left (Nat.mul_le_mul_right z hi)]
  have e2 : (splice cur ((i + 1) * z) ((L.drop i).flatMap cs)).drop (i * z + (cs x).length) = (L.drop i).flatMap cs ++ cur.drop ((i + 1) * z + ((L.drop i).flatMap cs).length) := by
    unfold splice
    rw [hz, ← h3, List.drop_append_of_le_length (by rw [List.length_take]; omega), List.drop_eq_nil_of_le (by rw [List.length_take]; omega), List.nil_append]
  show (_ ++ (cs x ++ _)).take _ = _
  rw [e1, e2, ← ins_len L x i hi]
  exact row_in hz L x i hi _
set_option maxRecDepth 100000 in
set_option maxHeartbeats 4000000 in
theorem ins_end (v : Value) (L : List En) (s T A : Int) (gx D : Nat) (tx : TypeId) (w : World) (hv : OwnR 64 3 enC w D v L) (hl : L.length ≤ 1000000) (hD : D ≤ w.heap.size)
    (hx : w.heap[gx]? = some (.cells #[.int .i64 s, .int .i64 T, .int .i64 A] tx (0, 0))) :
    Calls Try.prog 32 #[v, .int .i64 (L.length : Int), .slice (some ⟨gx, 0, none⟩) 1 1] w fun e w' => ∃ v', e = .returned v' ∧ OwnR 64 3 enC w' D v' (L ++ [(s, T, A)]) ∧ Below D w w' ∧ w.grownBy w' v.ownBlock := by
  obtain ⟨i0, hi, hj0, hj1, hj2⟩ := info_parts lays_sen.info
  obtain ⟨v', w', hrun, ho, hg, -⟩ := run_append_own (P := Try.prog) w D 29 29 64 i0 enZ 3 24 Try.underlying29 hi hj0 hj1 hj2 rfl (by decide) v L.length (L.flatMap enC) hv ⟨gx, 0, none⟩ 1 1 (enC (s, T, A)) rfl
    (fun j u hu => by
      rw [Addr.add_lit, Nat.zero_add]
      unfold World.cell?
      rw [hx]
      simpa [enC] using hu) (enC_one _) (by unfold maxLen; omega) (by omega) hD
  have hrun2 : ∀ ty, (Builtin.append_ #[29, 28] ty #[v, .slice (some ⟨gx, 0, none⟩) 1 1]).run Try.prog w = .ok v' w' := fun ty => by
    obtain ⟨p, cap, rfl⟩ := hv.form
    rw [append_ty Try.underlying29 Try.underlying28]
    exact hrun
  have HO : Hid (OwnR 64 3 enC w' D v' (L ++ [(s, T, A)])) := Lib.hid (by
    show w'.ownsRow _ _ _ _ (L ++ [(s, T, A)]).length ((L ++ [(s, T, A)]).flatMap enC)
    rw [List.length_append, List.flatMap_append]
    simpa using ho)
  have HB : Hid (Below D w w' ∧ w.grownBy w' v.ownBlock) := Lib.hid ⟨(Below.refl D w).grown hg hD (fun j hj => (World.ownsRow.lt hv j hj).1), hg⟩
  obtain ⟨p, cap, rfl⟩ := hv.form
  clear hrun ho hg
  go_enter Try.func32, Try.ntmps32
  go_wp2_with (refine Lib.wpList_append_run _ rfl _ _ _ _ rfl _ _ rfl rfl _ _ (hrun2 _) ?_)
  all_goals (go_ret; exact ⟨_, rfl, HO.out, HB.out.1, by have h := HB.out.2; cases p <;> exact h⟩)
set_option maxRecDepth 100000 in
set_option maxHeartbeats 4000000 in
theorem ins_shift (L : List En) (s T A : Int) (i gx g cap D : Nat) (tx : TypeId) (cur : Array Value) (w : World) (hl : L.length ≤ 1000000) (hi : i < L.length) (hroom : L.length + 1 ≤ cap) (hm : cap ≤ maxLen) (hDg : D ≤ g) (hne : gx ≠ g)
    (hg : w.heap[g]? = some (.cells cur 64 (0, 0))) (hs : cur.size = cap * 3) (ht : cur.toList.take (L.length * 3) = L.flatMap enC)
    (hx : w.heap[gx]? = some (.cells #[.int .i64 s, .int .i64 T, .int .i64 A] tx (0, 0))) :
    Calls Try.prog 32 #[.slice (some ⟨g, 0, none⟩) L.length cap, .int .i64 (i : Int), .slice (some ⟨gx, 0, none⟩) 1 1] w fun e w' => ∃ v', e = .returned v' ∧ OwnR 64 3 enC w' D v' (L.take i ++ (s, T, A) :: L.drop i) ∧ Below D w w' ∧ w.grownBy w' (Value.slice (some ⟨g, 0, none⟩) L.length cap).ownBlock := by
  obtain ⟨i0, hi0, hj0, hj1, hj2⟩ := info_parts lays_sen.info
  have hsz : (Try.prog.info? 64).map (·.size) = some 3 := by rw [hi0]; simp [hj1]
  have hov : ∀ lb cb, (callFunc 54 #[.slice (some ⟨gx, 0, none⟩) 1 1, .slice (some ⟨g, (i + 1) * 3, none⟩) lb cb]).run Try.prog w = .ok (.value (.bool false)) w := fun lb cb => by
    rw [run_callFunc_extern Try.func54 (by kernel_rfl) (by kernel_rfl) (by kernel_rfl) (e := Extern.SlicesOverlaps.overlaps #[28, 28] #[4]) (by kernel_rfl),
      Lib.run_overlaps_apart w 28 4 64 Try.underlying28 3 (fun W => by simp [Go.sizeOf, typeInfo, hi0, hj1]) ⟨gx, 0, none⟩ ⟨g, (i + 1) * 3, none⟩ 1 1 lb cb hne tx 64 3 (cap * 3) (by unfold World.shape?; rw [hx]; rfl) (by unfold World.shape?; rw [hg]; simp [hs]) (by omega) (by unfold World.frozen?; rw [hx]; rfl) (by unfold World.frozen?; rw [hx]; rfl)]
    rfl
  have hown : w.ownsRow D 64 3 (.slice (some ⟨g, 0, none⟩) L.length cap) L.length (L.flatMap enC) := ⟨flat_sz enC_len L, .inr ⟨g, cap, cur, rfl, hDg, hg, by omega, hm, hs, ht⟩⟩
  have hsrc1 : Hid (∀ j v, ((L.drop i).flatMap enC)[j]? = some v → w.drew.cell? (Addr.add ⟨g, i * 3, none⟩ j) = some v) := Lib.hid (fun j v hj => by
    have hjl := (List.getElem?_eq_some_iff.1 hj).1
    rw [flat_sz enC_len, List.length_drop] at hjl
    rw [Addr.add_lit]
    show w.cell? _ = _
    rw [hown.cellAt (i * 3 + j) (by omega), ← List.getElem?_drop, flat_drop enC_len, hj])
  have hlen1 : ((L.drop i).flatMap enC).length = (L.length - i) * 3 := by rw [flat_sz enC_len, List.length_drop]
  have hone1 : ∀ u ∈ (L.drop i).flatMap enC, u.oneCell' = true := by
    intro u hu
    obtain ⟨y, _, hy⟩ := List.mem_flatMap.1 hu
    exact enC_one y u hy
  have HT := Lib.hid (And.intro hs ht)
  obtain ⟨CS, hCS⟩ : ∃ CS, CS = (L.drop i).flatMap enC := ⟨_, rfl⟩
  rw [← hCS] at hsrc1 hlen1 hone1
  have HCS := Lib.hid hCS
  have hcl : cur.size = cap * 3 := hs
  have hdr : Below D w w.drew := Below.drew (Below.refl _ _)
  have hm63 : cap ≤ 9223372036854775807 := by unfold maxLen at hm; omega
  have hz2 : ¬ ((i : Int) = (L.length : Int)) := by omega
  have hz4 : ¬ ((cap : Int) < (L.length : Int) + 1) := by omega
  have hw1 : IntKind.i64.wrap ((i : Int) + 1) = (i : Int) + 1 := by rw [IntKind.wrap_i64]; omega
  have hb1 : (0 : Int) ≤ (i : Int) + 1 := by omega
  have hin : i ≤ L.length := by omega
  have htn : ((i : Int) + 1).toNat = i + 1 := by omega
  have hb2 : ¬ (cap = i + 1) := by omega
  have hb3 : (i : Int) ≤ (L.length : Int) + 1 := by omega
  have hb4 : ¬ (cap = i) := by omega
  have hxc : Hid (∀ j v, (enC (s, T, A))[j]? = some v → w.cell? (Addr.add ⟨gx, 0, none⟩ j) = some v) := Lib.hid (fun j u hu => by
    rw [Addr.add_lit, Nat.zero_add]
    unfold World.cell?
    rw [hx]
    simpa [enC] using hu)
  have hxb : gx < w.heap.size := (Array.getElem?_eq_some_iff.1 hx).1
  have HG : Hid (w.drew.heap[g]? = some (.cells cur.toList.toArray 64 (0, 0))) := Lib.hid (by rw [Array.toArray_toList]; exact hg)
  have mixed : Try.prog.follows Departure.mixedOrders = true := by kernel_rfl
  clear ht hs hCS hown hg hx
  go_enter Try.func32, Try.ntmps32
  go_wp2_with (simp only [hov])
  go_region_law_o (refine step_copy_k rfl _ _ 29 29 rfl 64 Try.underlying29 3 hsz g ((i + 1) * 3) (L.length + 1 - (i + 1)) (cap - (i + 1)) ⟨g, i * 3, none⟩ (L.length + 1 - i) (cap - i) (by simp [Act.eval, Act.put]) (by simp [Act.eval, Act.put]) cur.toList 64 HG.out CS (L.length - i) (by simp only [Nat.min_def]; split <;> omega) hlen1 hsrc1.out (by rw [hlen1, Array.length_toList (xs := cur), hcl]; omega) hone1 D w hdr hDg ?_; intro w2 hg2 hB2 hgr2)
  have hb := hgr2.block gx hxb (by simp [hne])
  have hxc2 : Hid (∀ j v, (enC (s, T, A))[j]? = some v → w2.cell? (Addr.add ⟨gx, 0, none⟩ j) = some v) := Lib.hid (fun j u hu => by
    have h := hxc.out j u hu
    rw [Addr.add_lit] at h ⊢
    exact (World.cell?_of_block (w := w.drew) (a := ⟨gx, 0 + j, none⟩) hb).trans h)
  have hfit2 : i * 3 + (enC (s, T, A)).length ≤ (splice cur.toList ((i + 1) * 3) CS).length := by
    rw [length_splice _ _ _ (by rw [hlen1, Array.length_toList (xs := cur), hcl]; omega), Array.length_toList (xs := cur), hcl, enC_len]; omega
  have HGR := Lib.hid hgr2
  clear hb hxc hgr2
  go_wp2_with (refine wpList_copy_k rfl _ _ 29 28 rfl 64 Try.underlying29 3 hsz g (i * 3) (L.length + 1 - i) (cap - i) ⟨gx, 0, none⟩ 1 1 rfl rfl (splice cur.toList ((i + 1) * 3) CS) 64 hg2.out (enC (s, T, A)) 1 (by simp only [Nat.min_def]; split <;> omega) rfl hxc2.out hfit2 (enC_one _) D w hB2 hDg ?_; intro w3 hg3 hB3 hgr3)
  go_ret
  have hg4 := hg3.out
  obtain ⟨hs, ht⟩ := HT.out
  rw [HCS.out] at hg4 hlen1
  refine ⟨_, rfl, OwnR.of_blk enC_len (ins_len L _ i hin).symm hDg hg4 (by rw [ins_len L _ i hin]; exact hroom) hm ?_ ?_, hB3, ⟨hB3.os, hB3.tape, hB3.output, Nat.le_trans HGR.out.size hgr3.size, fun k hk hne => (hgr3.block k (Nat.lt_of_lt_of_le hk HGR.out.size) hne).trans (HGR.out.block k hk hne)⟩⟩
  · rw [HCS.out] at hfit2
    rw [List.size_toArray, length_splice _ _ _ hfit2, length_splice _ _ _ (by rw [hlen1, Array.length_toList (xs := cur), hcl]; omega), Array.length_toList (xs := cur), hs]
  · rw [List.toList_toArray, ins_len L _ i hin]
    exact row_shift enC_len L _ i cap hin hroom cur.toList (by rw [Array.length_toList (xs := cur), hs]) ht
/-- the two copies of a row that was laid anew -/
theorem row_grow {α : Type} {z : Nat} {cs : α → List Value} (hz : ∀ x, (cs x).length = z) (L : List α) (x : α) (i : Nat) (hi : i ≤ L.length) (Z : List Value) (hZ : z + (L.length - i) * z ≤ Z.length) :
    (splice (splice ((L.take i).flatMap cs ++ Z) (i * z) (cs x)) ((i + 1) * z) ((L.drop i).flatMap cs)).take ((L.length + 1) * z) = (L.take i ++ x :: L.drop i).flatMap cs := by
  have hl : ((L.take i).flatMap cs).length = i * z := by rw [flat_sz hz, List.length_take, Nat.min_eq_left hi]
  have e1 : splice ((L.take i).flatMap cs ++ Z) (i * z) (cs x) = ((L.take i).flatMap cs ++ cs x) ++ Z.drop z := by
    unfold splice
    rw [List.take_append_of_le_length (by rw [hl]; exact Nat.le_refl _), List.take_of_length_le (by rw [hl]; exact Nat.le_refl _), hz, List.drop_append, hl, List.drop_eq_nil_of_le (by rw [hl]; omega), List.nil_append, Nat.add_sub_cancel_left, List.append_assoc]
  have hl2 : ((L.take i).flatMap cs ++ cs x).length = (i + 1) * z := by rw [List.length_append, hl, hz, Nat.succ_mul]
  have e2 : (((L.take i).flatMap cs ++ cs x) ++ Z.drop z).take ((i + 1) * z) = (L.take i).flatMap cs ++ cs x := by
    rw [List.take_append_of_le_length (by rw [hl2]; exact Nat.le_refl _), List.take_of_length_le (by rw [hl2]; exact Nat.le_refl _)]
  rw [e1]
  show (List.take ((i + 1) * z) _ ++ (_ ++ _)).take _ = _
  rw [e2, List.append_assoc, ← ins_len L x i hi]
  exact row_in hz L x i hi _
set_option maxRecDepth 100000 in
set_option maxHeartbeats 4000000 in
theorem ins_grow (L : List En) (s T A : Int) (i gx g cap D : Nat) (tx : TypeId) (cur : Array Value) (w : World) (hl : L.length ≤ 1000000) (hi : i < L.length) (hnc : L.length ≤ cap) (hroom : cap < L.length + 1) (hm : cap ≤ maxLen) (hDg : D ≤ g) (hD : D ≤ w.heap.size)
    (hg : w.heap[g]? = some (.cells cur 64 (0, 0))) (hs : cur.size = cap * 3) (ht : cur.toList.take (L.length * 3) = L.flatMap enC)
    (hx : w.heap[gx]? = some (.cells #[.int .i64 s, .int .i64 T, .int .i64 A] tx (0, 0))) :
    Calls Try.prog 32 #[.slice (some ⟨g, 0, none⟩) L.length cap, .int .i64 (i : Int), .slice (some ⟨gx, 0, none⟩) 1 1] w fun e w' => ∃ v', e = .returned v' ∧ OwnR 64 3 enC w' D v' (L.take i ++ (s, T, A) :: L.drop i) ∧ Below D w w' ∧ w.grownBy w' (Value.slice (some ⟨g, 0, none⟩) L.length cap).ownBlock := by
  obtain ⟨i0, hi0, hj0, hj1, hj2⟩ := info_parts lays_sen.info
  have hsz : (Try.prog.info? 64).map (·.size) = some 3 := by rw [hi0]; simp [hj1]
  have hown : w.ownsRow D 64 3 (.slice (some ⟨g, 0, none⟩) L.length cap) L.length (L.flatMap enC) := ⟨flat_sz enC_len L, .inr ⟨g, cap, cur, rfl, hDg, hg, by omega, hm, hs, ht⟩⟩
  have hgw : g < w.heap.size := (Array.getElem?_eq_some_iff.1 hg).1
  have hxw : gx < w.heap.size := (Array.getElem?_eq_some_iff.1 hx).1
  have hcell : ∀ j v, (L.flatMap enC)[j]? = some v → w.cell? ⟨g, j, none⟩ = some v := fun j v hj => by
    have hjl := (List.getElem?_eq_some_iff.1 hj).1
    rw [flat_sz enC_len] at hjl
    rw [hown.cellAt j hjl, hj]
  have hol : ((L.take i).flatMap enC).length = i * 3 := by rw [flat_sz enC_len, List.length_take, Nat.min_eq_left (Nat.le_of_lt hi)]
  have hold : (Builtin.firstCells i0.size i (.slice (some ⟨g, 0, none⟩) i cap)).run Try.prog w.drew = .ok ((L.take i).flatMap enC).toArray w.drew := by
    rw [hj1]
    exact run_firstCells_some w.drew 3 i ⟨g, 0, none⟩ i cap ((L.take i).flatMap enC) hol (fun j v hj => by
      rw [Addr.add_lit, Nat.zero_add]
      rw [← flat_take enC_len, List.getElem?_take] at hj
      split at hj
      · exact hcell j v hj
      · cases hj)
  have hkk : (L.length : Int) + 1 - (i : Int) = ((L.length + 1 - i : Nat) : Int) := by omega
  have hik : i + (L.length + 1 - i) = L.length + 1 := by omega
  have hrz : ∀ ty, (Builtin.append_ #[29, 3] ty #[.slice (some ⟨g, 0, none⟩) i cap, .int .i64 ((L.length : Int) + 1 - (i : Int))]).run Try.prog w =
      .ok (.slice (some ⟨w.heap.size, 0, none⟩) (L.length + 1) (grownCap w (L.length + 1) cap 64)) (w.drew.alloc (.cells (((L.take i).flatMap enC).toArray ++ Builtin.zeroCells enZ.cells (L.length + 1 - i) ++ Builtin.zeroCells enZ.cells (grownCap w (L.length + 1) cap 64 - (L.length + 1))) 64)) := fun ty => by
    have h := Lib.run_append_grow_zeros w 29 3 ty 64 i0 _ .i64 .i64 Try.underlying29 Try.underlying3 hi0 hj0 (some ⟨g, 0, none⟩) i cap ((L.take i).flatMap enC) hold (L.length + 1 - i) (by omega) (by omega) (by omega) (by omega) (by rw [hj2]; omega) (by rw [hj2, hik]; exact growslice_fits hroom (by omega))
    rw [hik] at h
    rw [hkk]
    exact h
  obtain ⟨G, hG⟩ : ∃ G, G = grownCap w (L.length + 1) cap 64 := ⟨_, rfl⟩
  have hGn : L.length + 1 ≤ G := by rw [hG]; exact grownCap_ge w _ _ _
  have hGm : G ≤ maxLen := by rw [hG]; exact grownCap_le_maxLen w (L.length + 1) cap 64 (by unfold maxLen; omega)
  have hG63 : G ≤ 9223372036854775807 := by unfold maxLen at hGm; omega
  obtain ⟨Z, hZ⟩ : ∃ Z : List Value, Z = (Builtin.zeroCells enZ.cells (L.length + 1 - i) ++ Builtin.zeroCells enZ.cells (G - (L.length + 1))).toList := ⟨_, rfl⟩
  have hZl : Z.length = (L.length + 1 - i) * 3 + (G - (L.length + 1)) * 3 := by
    rw [hZ, Array.length_toList, Array.size_append, size_zeroCells, size_zeroCells]
    rfl
  obtain ⟨ROW, hROW⟩ : ∃ ROW : List Value, ROW = (L.take i).flatMap enC ++ Z := ⟨_, rfl⟩
  have hRl : ROW.length = G * 3 := by rw [hROW, List.length_append, hol, hZl]; omega
  rw [← hG] at hrz
  have hrow : ((L.take i).flatMap enC).toArray ++ Builtin.zeroCells enZ.cells (L.length + 1 - i) ++ Builtin.zeroCells enZ.cells (G - (L.length + 1)) = ROW.toArray := by
    rw [hROW, hZ]
    apply Array.ext'
    simp [List.append_assoc]
  rw [hrow] at hrz
  obtain ⟨W1, hW1⟩ : ∃ W1, W1 = w.drew.alloc (.cells ROW.toArray 64) := ⟨_, rfl⟩
  rw [← hW1] at hrz
  have hB1 : Below D w W1 := by rw [hW1]; exact (Below.drew (Below.refl _ _)).alloc hD _
  have hBn : Below w.heap.size w W1 := by rw [hW1]; exact (Below.drew (Below.refl _ _)).alloc (Nat.le_refl _) _
  have HG1 : Hid (W1.heap[w.heap.size]? = some (.cells ROW.toArray 64 (0, 0))) := Lib.hid (by rw [hW1]; exact heap_alloc_new w.drew _)
  have hsrc1 : Hid (∀ W, Below w.heap.size w W → ∀ j v, ((L.drop i).flatMap enC)[j]? = some v → W.cell? (Addr.add ⟨g, i * 3, none⟩ j) = some v) := Lib.hid (fun W hb j v hj => by
    have hjl := (List.getElem?_eq_some_iff.1 hj).1
    rw [flat_sz enC_len, List.length_drop] at hjl
    rw [Addr.add_lit, hb.cell (p := ⟨g, i * 3 + j, none⟩) hgw, hcell (i * 3 + j) v (by rw [← List.getElem?_drop, flat_drop enC_len, hj])])
  have hxc : Hid (∀ W, Below w.heap.size w W → ∀ j v, (enC (s, T, A))[j]? = some v → W.cell? (Addr.add ⟨gx, 0, none⟩ j) = some v) := Lib.hid (fun W hb j u hu => by
    rw [Addr.add_lit, Nat.zero_add, hb.cell (p := ⟨gx, j, none⟩) hxw]
    unfold World.cell?
    rw [hx]
    simpa [enC] using hu)
  have hlen1 : ((L.drop i).flatMap enC).length = (L.length - i) * 3 := by rw [flat_sz enC_len, List.length_drop]
  have hone1 : ∀ u ∈ (L.drop i).flatMap enC, u.oneCell' = true := by
    intro u hu
    obtain ⟨y, _, hy⟩ := List.mem_flatMap.1 hu
    exact enC_one y u hy
  have HR := Lib.hid (And.intro hROW hZl)
  obtain ⟨CS, hCS⟩ : ∃ CS, CS = (L.drop i).flatMap enC := ⟨_, rfl⟩
  rw [← hCS] at hsrc1 hlen1 hone1
  have HCS := Lib.hid hCS
  have hz2 : ¬ ((i : Int) = (L.length : Int)) := by omega
  have hz3 : (cap : Int) < (L.length : Int) + 1 := by omega
  have hw1 : IntKind.i64.wrap ((i : Int) + 1) = (i : Int) + 1 := by rw [IntKind.wrap_i64]; omega
  have hb1 : (0 : Int) ≤ (i : Int) + 1 := by omega
  have hin : i ≤ L.length := by omega
  have htn : ((i : Int) + 1).toNat = i + 1 := by omega
  have hGi : ¬ (G = i) := by omega
  have hGim : ¬ (G = i + 1) := by omega
  have hci : ¬ (cap = i) := by omega
  have hb3 : (i : Int) ≤ (L.length : Int) := by omega
  have mixed : Try.prog.follows Departure.mixedOrders = true := by kernel_rfl
  clear ht hs hCS hown hg hx hrow hZ hROW hG hold hcell hkk hik hW1 hol
  go_enter Try.func32, Try.ntmps32
  go_wp2_with (first
    | (refine Lib.wpList_append_run _ rfl _ _ _ _ rfl _ _ rfl rfl _ _ (hrz _) ?_)
    | (refine wpList_copy_k rfl _ _ 29 28 rfl 64 Try.underlying29 3 hsz w.heap.size (i * 3) (L.length + 1 - i) (G - i) ⟨gx, 0, none⟩ 1 1 rfl rfl ROW 64 HG1.out (enC (s, T, A)) 1 (by simp only [Nat.min_def]; split <;> omega) rfl (hxc.out _ hBn) (by rw [hRl, enC_len]; omega) (enC_one _) w.heap.size w hBn (Nat.le_refl _) ?_; intro w2 hg2 hB2 _))
  have hspl : (splice ROW (i * 3) (enC (s, T, A))).length = G * 3 := by rw [length_splice _ _ _ (by rw [hRl, enC_len]; omega), hRl]
  go_region_law_o (refine step_copy_k rfl _ _ 29 29 rfl 64 Try.underlying29 3 hsz w.heap.size ((i + 1) * 3) (L.length + 1 - (i + 1)) (G - (i + 1)) ⟨g, i * 3, none⟩ (L.length - i) (cap - i) (by simp [Act.eval, Act.put]) (by simp [Act.eval, Act.put]) (splice ROW (i * 3) (enC (s, T, A))) 64 hg2.out CS (L.length - i) (by simp only [Nat.min_def]; split <;> omega) hlen1 (hsrc1.out _ (Below.drew hB2)) (by rw [hlen1, hspl]; omega) hone1 w.heap.size w (Below.drew hB2) (Nat.le_refl _) ?_; intro w3 hg3 hB3 _)
  go_wp2
  go_ret
  have hg4 := hg3.out
  obtain ⟨h1, h2⟩ := HR.out
  rw [HCS.out] at hg4 hlen1
  refine ⟨_, rfl, OwnR.of_blk enC_len (ins_len L _ i hin).symm hD hg4 (by rw [ins_len L _ i hin]; exact hGn) hGm ?_ ?_, hB3.mono hD, ⟨hB3.os, hB3.tape, hB3.output, hB3.size, fun k hk _ => hB3.block k hk⟩⟩
  · rw [List.size_toArray, length_splice _ _ _ (by rw [hlen1, hspl]; omega), hspl]
  · rw [List.toList_toArray, ins_len L _ i hin, h1]
    exact row_grow enC_len L _ i hin Z (by rw [h2]; omega)
/-- one entry is put in at its place -/
theorem ins14_any (v : Value) (L : List En) (s T A : Int) (i gx D : Nat) (tx : TypeId) (w : World) (hv : OwnR 64 3 enC w D v L) (hl : L.length ≤ 1000000) (hi : i ≤ L.length) (hD : D ≤ w.heap.size) (hne : v.ownBlock ≠ some gx)
    (hx : w.heap[gx]? = some (.cells #[.int .i64 s, .int .i64 T, .int .i64 A] tx (0, 0))) :
    Calls Try.prog 32 #[v, .int .i64 (i : Int), .slice (some ⟨gx, 0, none⟩) 1 1] w fun e w' => ∃ v', e = .returned v' ∧ OwnR 64 3 enC w' D v' (L.take i ++ (s, T, A) :: L.drop i) ∧ Below D w w' ∧ w.grownBy w' v.ownBlock := by
  by_cases hlt : i < L.length
  · rcases hv.2 with ⟨rfl, hL⟩ | ⟨g, cap, cur, rfl, hDg, hg, hc, hm, hs, ht⟩
    · omega
    · by_cases hroom : L.length + 1 ≤ cap
      · exact ins_shift L s T A i gx g cap D tx cur w hl hlt hroom hm hDg (fun e => hne (by rw [e]; rfl)) hg hs ht hx
      · exact ins_grow L s T A i gx g cap D tx cur w hl hlt hc (by omega) hm hDg hD hg hs ht hx
  · obtain rfl : i = L.length := by omega
    rw [List.take_length, List.drop_length]
    exact ins_end v L s T A gx D tx w hv hl hD hx
end Go.Proofs.Ytpmabkegjdjodaa
