/- Layer 14, the document's: full buckets taken out; a source's bucket, and where it stands. -/
import Derived.Test.YtpmabkegjdjodaaS14A
import Derived.Test.YtpmabkegjdjodaaKitE
namespace Go.Proofs.Ytpmabkegjdjodaa
open Go.RowKit
set_option linter.unusedVariables false
set_option linter.unusedSimpArgs false

/-- is a bucket not full? -/
def lowF (B R now : Int) (e : En) : Bool := decide (lvlN B R e.2.1 e.2.2 now < B)
theorem cln_fl {B R : Int} {L : List En} (h : chkS14 B R L = 0) (now : Int) : clnS B R L now = L.filter (lowF B R now) := by unfold clnS; rw [if_neg (by rw [h]; decide)]; rfl
theorem cln_no {B R : Int} {L : List En} (h : chkS14 B R L ≠ 0) (now : Int) : clnS B R L now = L := by unfold clnS; rw [if_pos h]
theorem fil_next {α : Type} {f : α → Bool} {l : List α} {k : Nat} (h : k < l.length) : (l.take (k + 1)).filter f = (l.take k).filter f ++ (if f l[k] = true then [l[k]] else []) := by
  rw [List.take_succ_eq_append_getElem h, List.filter_append]
  by_cases hf : f l[k] = true
  · rw [if_pos hf, List.filter_cons_of_pos hf, List.filter_nil]
  · rw [if_neg hf, List.filter_cons_of_neg hf, List.filter_nil]
theorem fil_len {α : Type} (f : α → Bool) (l : List α) (k : Nat) : ((l.take k).filter f).length ≤ l.length := Nat.le_trans (List.length_filter_le _ _) (by rw [List.length_take]; omega)
theorem OwnR.below {α : Type} {te : TypeId} {z : Nat} {cs : α → List Value} {w w1 : World} {B : Nat} {v : Value} {l : List α} (h : OwnR te z cs w B v l) (hb : Below w.heap.size w w1) : OwnR te z cs w1 B v l := h.call hb
set_option maxRecDepth 100000 in
set_option maxHeartbeats 4000000 in
theorem rfclean_own (B R : Int) (v : Value) (L : List En) (now : Int) (w : World) (hv : IsR 3 enC w v L) (hl : L.length ≤ 1000000) (hc : chkS14 B R L = 0) :
    Calls Try.prog 17 #[twV B R, v, .int .i64 now] w fun e w' => ∃ v', e = .returned v' ∧ OwnR 67 3 enC w' w.heap.size v' (clnS B R L now) ∧ Below w.heap.size w w' := by
  have HV := Lib.hid hv
  obtain ⟨p, cap, rfl, -, hp⟩ := hv
  have HP := Lib.hid hp
  clear hp
  have c0 := Lib.hid (fun W (hb : Below w.heap.size w W) => rfcheck14_any B R _ L W (HV.out.call hb) hl)
  have X0 : Hid (∀ t, Bx2 (w.alloc (.cells #[.int .i64 B, .int .i64 R] t)) w.heap.size B R) := Lib.hid (fun t => by simp [Bx2, go_sem])
  simp only [twV] at *
  have HQ := Lib.hid (cln_fl hc now)
  rw [hc] at c0
  clear hc
  go_enter Try.func17, Try.ntmps17
  go_wp2_with fail
  refine (c0.out _ (by (repeat (first | (with_reducible exact Below.refl _ _) | ((with_reducible refine below_alloc ?_ ?_ _); · (first | omega | (simp; done) | (simp; omega))) | ((with_reducible refine below_setCell ?_ ?_ _); · (first | omega | (simp; done) | (simp; omega))) | (with_reducible refine Below.drew ?_) | (with_reducible refine below_drewN ?_ _) | ((with_reducible refine below_call (by assumption) ?_ ?_); · (first | omega | (simp; done) | (simp; omega))))))).mono ?_; rintro e w1 ⟨rfl, hb1⟩
  have B1 : Below w.heap.size w w1 := by (repeat (first | (with_reducible exact Below.refl _ _) | ((with_reducible refine below_alloc ?_ ?_ _); · (first | omega | (simp; done) | (simp; omega))) | ((with_reducible refine below_setCell ?_ ?_ _); · (first | omega | (simp; done) | (simp; omega))) | (with_reducible refine Below.drew ?_) | (with_reducible refine below_drewN ?_ _) | ((with_reducible refine below_call (by assumption) ?_ ?_); · (first | omega | (simp; done) | (simp; omega)))))
  have X1 := (X0.out _).call hb1
  have hz1 : w.heap.size + 1 ≤ w1.heap.size := X1.lt
  clear X0 hb1
  go_wp2
  go_loopw [7, 8] (fun o i wr => ∃ k : Nat, i = .int .i64 k ∧ k ≤ L.length ∧ OwnR 67 3 enC wr (w.heap.size + 1) o ((L.take k).filter (lowF B R now)) ∧ Bx2 wr w.heap.size B R ∧ Below w.heap.size w wr ∧ w.heap.size + 1 ≤ wr.heap.size) (fun _ i _ => L.length - (intOf i).toNat)
  case atStart => exact ⟨0, rfl, Nat.zero_le _, OwnR.nil _ _ _ _ _, X1, B1, hz1⟩
  case round =>
    clear X1 B1 hz1
    obtain ⟨k, rfl, hk, ho, hX, hB, hz⟩ := hrel
    have HO := Lib.hid ho
    have HX := Lib.hid hX
    clear ho
    by_cases hlt : k < L.length
    · have hlt' : (k : Int) < L.length := by omega
      obtain ⟨b, off, rfl, g⟩ := HP.out k hlt
      have g3 := (en3_of g).far hB
      have HN := Lib.hid (fil_next (f := lowF B R now) hlt)
      have hfl := fil_len (lowF B R now) L k
      have cL := Lib.hid (fun W => bdlevel_any B R L[k].2.1 L[k].2.2 now W)
      simp only [twV] at cL
      rw [show lowF B R now L[k] = decide (lvlN B R L[k].2.1 L[k].2.2 now < B) from rfl] at HN
      generalize L[k] = e at g3 HN cL
      obtain ⟨s, T, A⟩ := e
      simp only at g3 HN cL
      generalize lvlN B R T A now = lv at HN cL
      have hout : Hid (∀ W, Below wr.heap.size wr W → (W.cell? ⟨w.heap.size, 0, none⟩ = some (.int .i64 B) ∧ W.cell? ⟨w.heap.size, 1, none⟩ = some (.int .i64 R)) ∧ (W.cell? ⟨b, off + k * 3, none⟩ = some (.int .i64 s) ∧ W.cell? ⟨b, off + k * 3 + 1, none⟩ = some (.int .i64 T) ∧ W.cell? ⟨b, off + k * 3 + 2, none⟩ = some (.int .i64 A))) := Lib.hid (fun W hb => ⟨hX.call hb, g3.far hb⟩)
      have hT : Below wr.heap.size wr wr.drew := Below.drew (Below.refl _ _)
      clear hX g3 g
      go_wp2
      refine wp_region_held_drew (S := fun W => (W.cell? ⟨w.heap.size, 0, none⟩ = some (.int .i64 B) ∧ W.cell? ⟨w.heap.size, 1, none⟩ = some (.int .i64 R)) ∧ (W.cell? ⟨b, off + k * 3, none⟩ = some (.int .i64 s) ∧ W.cell? ⟨b, off + k * 3 + 1, none⟩ = some (.int .i64 T) ∧ W.cell? ⟨b, off + k * 3 + 2, none⟩ = some (.int .i64 A))) (by kernel_rfl) (hout.out _ (by assumption)) (fun hHeld => ?_)
      (refine wpAnyH_take (i := 0) (v := ?_) rfl (by kernel_rfl) (by kernel_rfl) (by kernel_rfl) (fun _ _ _ h => h) (Or.inl ⟨by rfl, ?_⟩) (by assumption) ?_; rotate_left 1; (focus (intro wz hz; (try dsimp only at hz); (try simp only [List.getElem_toArray, List.getElem_cons_succ, List.getElem_cons_zero]); go_simp; (try (rw [if_neg (by (try simp only [ByteArray.size_append]); omega)])); try (with_reducible rfl); done)))
      try simp only [Act.put, List.getElem_toArray, List.getElem_cons_succ, List.getElem_cons_zero, List.setIfInBounds_toArray, List.set_cons_zero, List.set_cons_succ]
      (refine wpAnyH_take (i := 1) (v := ?_) rfl (by kernel_rfl) (by kernel_rfl) (by kernel_rfl) (fun _ _ _ h => h) (Or.inl ⟨by rfl, ?_⟩) (by assumption) ?_; rotate_left 1; (focus (intro wz hz; (try dsimp only at hz); (try simp only [List.getElem_toArray, List.getElem_cons_succ, List.getElem_cons_zero]); go_simp; (try (rw [if_neg (by (try simp only [ByteArray.size_append]); omega)])); try (with_reducible rfl); done)))
      try simp only [Act.put, List.getElem_toArray, List.getElem_cons_succ, List.getElem_cons_zero, List.setIfInBounds_toArray, List.set_cons_zero, List.set_cons_succ]
      (refine wpAnyH_take (i := 2) (v := ?_) rfl (by kernel_rfl) (by kernel_rfl) (by kernel_rfl) (fun _ _ _ h => h) (Or.inl ⟨by rfl, ?_⟩) (by assumption) ?_; rotate_left 1; (focus (intro wz hz; (try dsimp only at hz); (try simp only [List.getElem_toArray, List.getElem_cons_succ, List.getElem_cons_zero]); go_simp; (try (rw [if_neg (by (try simp only [ByteArray.size_append]); omega)])); try (with_reducible rfl); done)))
      try simp only [Act.put, List.getElem_toArray, List.getElem_cons_succ, List.getElem_cons_zero, List.setIfInBounds_toArray, List.set_cons_zero, List.set_cons_succ]
      (refine wpAnyH_take (i := 6) (v := ?_) rfl (by kernel_rfl) (by kernel_rfl) (by kernel_rfl) (fun _ _ _ h => h) (Or.inl ⟨by rfl, ?_⟩) (by assumption) ?_; rotate_left 1; (focus (intro wz hz; (try dsimp only at hz); (try simp only [List.getElem_toArray, List.getElem_cons_succ, List.getElem_cons_zero]); go_simp; (try (rw [if_neg (by (try simp only [ByteArray.size_append]); omega)])); try (with_reducible rfl); done)))
      try simp only [Act.put, List.getElem_toArray, List.getElem_cons_succ, List.getElem_cons_zero, List.setIfInBounds_toArray, List.set_cons_zero, List.set_cons_succ]
      (refine wpAnyH_take (i := 8) (v := ?_) rfl (by kernel_rfl) (by kernel_rfl) (by kernel_rfl) (fun _ _ _ h => h) (Or.inl ⟨by rfl, ?_⟩) (by assumption) ?_; rotate_left 1; (focus (intro wz hz; (try dsimp only at hz); (try simp only [List.getElem_toArray, List.getElem_cons_succ, List.getElem_cons_zero]); go_simp; (try (rw [if_neg (by (try simp only [ByteArray.size_append]); omega)])); try (with_reducible rfl); done)))
      try simp only [Act.put, List.getElem_toArray, List.getElem_cons_succ, List.getElem_cons_zero, List.setIfInBounds_toArray, List.set_cons_zero, List.set_cons_succ]
      (refine wpAnyH_take (i := 3) (v := ?_) rfl (by kernel_rfl) (by kernel_rfl) (by kernel_rfl) (fun _ _ _ h => h) (Or.inl ⟨by rfl, ?_⟩) (by assumption) ?_; rotate_left 1; (focus (intro wz hz; (try dsimp only at hz); (try simp only [List.getElem_toArray, List.getElem_cons_succ, List.getElem_cons_zero]); go_simp; (try (rw [if_neg (by (try simp only [ByteArray.size_append]); omega)])); try (with_reducible rfl); done)))
      try simp only [Act.put, List.getElem_toArray, List.getElem_cons_succ, List.getElem_cons_zero, List.setIfInBounds_toArray, List.set_cons_zero, List.set_cons_succ]
      (refine wpAnyH_take (i := 9) (v := ?_) rfl (by kernel_rfl) (by kernel_rfl) (by kernel_rfl) (fun _ _ _ h => h) (Or.inl ⟨by rfl, ?_⟩) (by assumption) ?_; rotate_left 1; (focus (intro wz hz; (try dsimp only at hz); (try simp only [List.getElem_toArray, List.getElem_cons_succ, List.getElem_cons_zero]); go_simp; (try (rw [if_neg (by (try simp only [ByteArray.size_append]); omega)])); try (with_reducible rfl); done)))
      try simp only [Act.put, List.getElem_toArray, List.getElem_cons_succ, List.getElem_cons_zero, List.setIfInBounds_toArray, List.set_cons_zero, List.set_cons_succ]
      (refine wpAnyH_take (i := 4) (v := ?_) rfl (by kernel_rfl) (by kernel_rfl) (by kernel_rfl) (fun _ _ _ h => h) (Or.inl ⟨by rfl, ?_⟩) (by assumption) ?_; rotate_left 1; (focus (intro wz hz; (try dsimp only at hz); (try simp only [List.getElem_toArray, List.getElem_cons_succ, List.getElem_cons_zero]); go_simp; (try (rw [if_neg (by (try simp only [ByteArray.size_append]); omega)])); try (with_reducible rfl); done)))
      try simp only [Act.put, List.getElem_toArray, List.getElem_cons_succ, List.getElem_cons_zero, List.setIfInBounds_toArray, List.set_cons_zero, List.set_cons_succ]
      (refine wpAnyH_take (i := 5) (v := ?_) rfl (by kernel_rfl) (by kernel_rfl) (by kernel_rfl) (fun _ _ _ h => h) (Or.inl ⟨by rfl, ?_⟩) (by assumption) ?_; rotate_left 1; (focus (intro wz hz; (try dsimp only at hz); (try simp only [List.getElem_toArray, List.getElem_cons_succ, List.getElem_cons_zero]); go_simp; (try (rw [if_neg (by (try simp only [ByteArray.size_append]); omega)])); try (with_reducible rfl); done)))
      try simp only [Act.put, List.getElem_toArray, List.getElem_cons_succ, List.getElem_cons_zero, List.setIfInBounds_toArray, List.set_cons_zero, List.set_cons_succ]
      (refine wpAnyH_ready (rs := [7]) (by kernel_rfl) (by simp) ?_; refine AllReadyH.cons rfl (fun K hK => ?_) AllReadyH.nil; (try simp only [List.getElem_toArray, List.getElem_cons_succ, List.getElem_cons_zero]); go_simp; go_at_call 36; refine (cL.out _).mono ?_; rintro e wn7 ⟨rfl, hbn7⟩; have hT7 : Below wr.heap.size wr wn7 := hT.trans (hbn7.mono hT.size); (try (go_wp2_with fail)); refine hK.out _ _ (hout.out _ (by assumption)) (fun hHeld => ?_); clear hK K)
      try simp only [Act.put, List.getElem_toArray, List.getElem_cons_succ, List.getElem_cons_zero, List.setIfInBounds_toArray, List.set_cons_zero, List.set_cons_succ]
      (refine wpAnyH_take (i := 10) (v := ?_) rfl (by kernel_rfl) (by kernel_rfl) (by kernel_rfl) (fun _ _ _ h => h) (Or.inl ⟨by rfl, ?_⟩) (by assumption) ?_; rotate_left 1; (focus (intro wz hz; (try dsimp only at hz); (try simp only [List.getElem_toArray, List.getElem_cons_succ, List.getElem_cons_zero]); go_simp; (try (rw [if_neg (by (try simp only [ByteArray.size_append]); omega)])); try (with_reducible rfl); done)))
      try simp only [Act.put, List.getElem_toArray, List.getElem_cons_succ, List.getElem_cons_zero, List.setIfInBounds_toArray, List.set_cons_zero, List.set_cons_succ]
      refine wpAnyH_done (by kernel_rfl) ?_ _
      clear hHeld
      obtain ⟨d0, ⟨d1, d2, d3⟩⟩ := hout.out _ hT7
      have hz7 := Nat.le_trans hz hT7.size
      have B7 := hB.trans (hT7.mono hB.size)
      have HO7 := Lib.hid (HO.out.call hT7)
      have HX7 := Lib.hid (HX.out.call hT7)
      by_cases hlv : lv < B
      · rw [decide_eq_true hlv, if_pos rfl] at HN
        go_wp2_with (at_builtin; refine app_row lays_ren enC_len enC_one rfl _ _ rfl (w.heap.size + 1) _ [((s, T, A) : En)] _ _ rfl (HO7.out.alloc _) rfl (isR_one wn7 _ _ 1 rfl rfl) (by simp; omega) (by simp; omega) ?_; intro v5 w5 ho5 hb5 _ _)
        have hb5' : Below (w.heap.size + 1) wn7 w5 := (below_alloc hz7 (Below.refl _ _) _).trans hb5
        go_roundw
        case rel =>
          refine ⟨k + 1, by go_num, by omega, by rw [HN.out]; exact ho5, ⟨(hb5'.cell (p := ⟨w.heap.size, 0, none⟩) (Nat.lt_succ_self _)).trans HX7.out.1, (hb5'.cell (p := ⟨w.heap.size, 1, none⟩) (Nat.lt_succ_self _)).trans HX7.out.2⟩, B7.trans (hb5'.mono (by omega)), Nat.le_trans hz7 hb5'.size⟩
        case measure => simp [intOf]; omega
      · rw [decide_eq_false hlv, if_neg (by decide), List.append_nil] at HN
        have hlv' : B ≤ lv := by omega
        go_wp2
        go_roundw
        case rel => exact ⟨k + 1, by go_num, by omega, by rw [HN.out]; exact HO7.out, HX7.out, B7, hz7⟩
        case measure => simp [intOf]; omega
    · obtain rfl : k = L.length := by omega
      have hO := HO.out
      rw [List.take_length, ← HQ.out] at hO
      have HOf := Lib.hid hO
      clear hO
      go_wp2
      go_ret
      exact ⟨_, rfl, HOf.out.mono (Nat.le_succ _), hB⟩
theorem rfclean_any (B R : Int) (v : Value) (L : List En) (now : Int) (w : World) (hv : IsR 3 enC w v L) (hl : L.length ≤ 1000000) :
    Calls Try.prog 17 #[twV B R, v, .int .i64 now] w fun e w' => ∃ v', e = .returned v' ∧ IsR 3 enC w' v' (clnS B R L now) ∧ Below w.heap.size w w' := by
  by_cases hc : chkS14 B R L = 0
  · refine (rfclean_own B R v L now w hv hl hc).mono ?_
    rintro e w1 ⟨v', rfl, ho, hb⟩
    exact ⟨v', rfl, ho.reads enC_len, hb⟩
  have HV := Lib.hid hv
  obtain ⟨p, cap, rfl, -, hp⟩ := hv
  clear hp
  have c0 := Lib.hid (fun W (hb : Below w.heap.size w W) => rfcheck14_any B R _ L W (HV.out.call hb) hl)
  simp only [twV] at *
  have HQ := Lib.hid (cln_no hc now)
  have e0 : (chkS14 B R L != 0) = true := by simp [hc]
  generalize chkS14 B R L = E at c0 e0
  clear hc
  go_enter Try.func17, Try.ntmps17
  go_wp2_with fail
  refine (c0.out _ (by (repeat (first | (with_reducible exact Below.refl _ _) | ((with_reducible refine below_alloc ?_ ?_ _); · (first | omega | (simp; done) | (simp; omega))) | ((with_reducible refine below_setCell ?_ ?_ _); · (first | omega | (simp; done) | (simp; omega))) | (with_reducible refine Below.drew ?_) | (with_reducible refine below_drewN ?_ _) | ((with_reducible refine below_call (by assumption) ?_ ?_); · (first | omega | (simp; done) | (simp; omega))))))).mono ?_; rintro e w1 ⟨rfl, hb1⟩
  have B1 : Below w.heap.size w w1 := by (repeat (first | (with_reducible exact Below.refl _ _) | ((with_reducible refine below_alloc ?_ ?_ _); · (first | omega | (simp; done) | (simp; omega))) | ((with_reducible refine below_setCell ?_ ?_ _); · (first | omega | (simp; done) | (simp; omega))) | (with_reducible refine Below.drew ?_) | (with_reducible refine below_drewN ?_ _) | ((with_reducible refine below_call (by assumption) ?_ ?_); · (first | omega | (simp; done) | (simp; omega)))))
  go_wp2
  go_ret
  exact ⟨_, rfl, by rw [HQ.out]; exact HV.out.call B1, B1⟩
end Go.Proofs.Ytpmabkegjdjodaa
