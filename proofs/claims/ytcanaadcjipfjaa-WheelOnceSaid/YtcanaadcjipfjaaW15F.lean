/- Layer 15, the document's: whether what is due is the same; the statements': what is due, as the document has it; a sum. -/
import Derived.Test.YtcanaadcjipfjaaW15E
import Derived.Lib.MinMax
namespace Go.Proofs.Ytcanaadcjipfjaa
open Go.RowKit
set_option linter.unusedVariables false
set_option linter.unusedSimpArgs false

set_option maxRecDepth 100000 in
set_option maxHeartbeats 4000000 in
theorem neq_rdu (x y : Du) (W : World) : (binOp .neq 65 (.agg #[.int .i64 x.1, .int .i64 x.2]) (.agg #[.int .i64 y.1, .int .i64 y.2])).run Try.prog W = .ok (.bool (!decide (x = y))) W := by
  have hS : Try.prog.underlying 65 = some (.struct (Try.prog.fieldsOf 65)) := by kernel_rfl
  have hp : Try.prog.stoodInHeld 65 = false := by kernel_rfl
  obtain ⟨s, t⟩ := x
  obtain ⟨s', t'⟩ := y
  rw [run_neq_struct, show (10000 : Nat) = 9999 + 1 from rfl, run_equalIn_agg W 9999 65 _ _ hS hp]
  clear hS hp
  simp only [Program.fieldsOf, Try.underlying65]
  go_simp
  by_cases e0 : s = s' <;> by_cases e1 : t = t' <;> simp [e0, e1]
theorem neq_wdu (x y : Du) (W : World) : (binOp .neq 62 (.agg #[.int .i64 x.1, .int .i64 x.2]) (.agg #[.int .i64 y.1, .int .i64 y.2])).run Try.prog W = .ok (.bool (!decide (x = y))) W := by
  have hS : Try.prog.underlying 62 = some (.struct (Try.prog.fieldsOf 62)) := by kernel_rfl
  have hp : Try.prog.stoodInHeld 62 = false := by kernel_rfl
  obtain ⟨s, t⟩ := x
  obtain ⟨s', t'⟩ := y
  rw [run_neq_struct, show (10000 : Nat) = 9999 + 1 from rfl, run_equalIn_agg W 9999 62 _ _ hS hp]
  clear hS hp
  simp only [Program.fieldsOf, Try.underlying62]
  go_simp
  by_cases e0 : s = s' <;> by_cases e1 : t = t' <;> simp [e0, e1]
set_option maxRecDepth 100000 in
set_option maxHeartbeats 4000000 in
theorem samedue_any (v1 v2 : Value) (L M : List Du) (w : World) (h1 : IsR 2 duC w v1 L) (h2 : IsR 2 duC w v2 M) (hl : L.length ≤ 1000000) (hm : M.length ≤ 1000000) :
    Calls Try.prog 16 #[v1, v2] w fun e w' => e = .returned (.bool (decide (L = M))) ∧ Below w.heap.size w w' := by
  obtain ⟨p1, c1, rfl, -, hp1⟩ := h1
  obtain ⟨p2, c2, rfl, -, hp2⟩ := h2
  have H1 := Lib.hid hp1
  have H2 := Lib.hid hp2
  clear hp1 hp2
  have NQ := Lib.hid (fun x y W => neq_rdu x y W)
  by_cases hlen : L.length = M.length
  case neg =>
    have HQ : Hid (decide (L = M) = false) := Lib.hid (decide_eq_false (fun h => hlen (by rw [h])))
    have e0 : ((L.length : Int) != (M.length : Int)) = true := by simp; omega
    go_enter Try.func16, Try.ntmps16
    go_wp2
    go_ret
    exact ⟨ret_bool HQ.out.symm, Below.refl _ _⟩
  have e0 : ((L.length : Int) != (M.length : Int)) = false := by simp; omega
  go_enter Try.func16, Try.ntmps16
  go_wp2
  go_loopw [5] (fun i wr => ∃ k : Nat, i = .int .i64 k ∧ k ≤ L.length ∧ (∀ j (hj : j < L.length) (hj' : j < M.length), j < k → L[j] = M[j]) ∧ Below w.heap.size w wr) (fun i _ => L.length - (intOf i).toNat)
  case atStart => exact ⟨0, rfl, Nat.zero_le _, fun j _ _ h => by omega, Below.refl _ _⟩
  case round =>
    obtain ⟨k, rfl, hk, hok, hB⟩ := hrel
    have HO := Lib.hid hok
    clear hok
    by_cases hlt : k < L.length
    · have hlt' : (k : Int) < L.length := by omega
      have hlt2 : k < M.length := by omega
      have hlt2' : (k : Int) < M.length := by omega
      obtain ⟨b1, o1, rfl, g1⟩ := H1.out k hlt
      obtain ⟨b2, o2, rfl, g2⟩ := H2.out k hlt2
      have q1 := (du2_of g1).far hB
      have q2 := (du2_of g2).far hB
      have nq := NQ.out L[k] M[k]
      have HG := Lib.hid (show L[k] = M[k] → ∀ j (hj : j < L.length) (hj' : j < M.length), j < k + 1 → L[j] = M[j] from fun h j hj hj' hjk => by
        by_cases e : j = k
        · subst e; exact h
        · exact HO.out j hj hj' (by omega))
      have HF := Lib.hid (show L[k] ≠ M[k] → decide (L = M) = false from fun h => decide_eq_false (fun e => h (by subst e; rfl)))
      generalize L[k] = x at q1 nq HG HF
      generalize M[k] = y at q2 nq HG HF
      obtain ⟨x0, x1⟩ := x
      obtain ⟨y0, y1⟩ := y
      obtain ⟨d0, d1⟩ := q1
      obtain ⟨e0', e1'⟩ := q2
      simp only at d0 d1 e0' e1' nq
      generalize hxy : decide ((x0, x1) = (y0, y1)) = q at nq
      have HXY := Lib.hid hxy
      clear g1 g2 hxy
      go_wp2
      refine wp_region_held_drew (S := fun W => (W.cell? ⟨b1, o1 + k * 2, none⟩ = some (.int .i64 x0) ∧ W.cell? ⟨b1, o1 + k * 2 + 1, none⟩ = some (.int .i64 x1)) ∧ (W.cell? ⟨b2, o2 + k * 2, none⟩ = some (.int .i64 y0) ∧ W.cell? ⟨b2, o2 + k * 2 + 1, none⟩ = some (.int .i64 y1))) (by kernel_rfl) (⟨⟨d0, d1⟩, e0', e1'⟩) (fun hHeld => ?_)
      (refine wpAnyH_take (i := 0) (v := ?_) rfl (by kernel_rfl) (by kernel_rfl) (by kernel_rfl) (fun _ _ _ h => h) (Or.inl ⟨by rfl, ?_⟩) (by assumption) ?_; rotate_left 1; (focus (intro wz hz; (try dsimp only at hz); (try simp only [List.getElem_toArray, List.getElem_cons_succ, List.getElem_cons_zero]); go_simp; (try (rw [if_neg (by (try simp only [ByteArray.size_append]); omega)])); try (with_reducible rfl); done)))
      try simp only [Act.put, List.getElem_toArray, List.getElem_cons_succ, List.getElem_cons_zero, List.setIfInBounds_toArray, List.set_cons_zero, List.set_cons_succ]
      (refine wpAnyH_take (i := 1) (v := ?_) rfl (by kernel_rfl) (by kernel_rfl) (by kernel_rfl) (fun _ _ _ h => h) (Or.inl ⟨by rfl, ?_⟩) (by assumption) ?_; rotate_left 1; (focus (intro wz hz; (try dsimp only at hz); (try simp only [List.getElem_toArray, List.getElem_cons_succ, List.getElem_cons_zero]); go_simp; (try (rw [if_neg (by (try simp only [ByteArray.size_append]); omega)])); try (with_reducible rfl); done)))
      try simp only [Act.put, List.getElem_toArray, List.getElem_cons_succ, List.getElem_cons_zero, List.setIfInBounds_toArray, List.set_cons_zero, List.set_cons_succ]
      (refine wpAnyH_take (i := 4) (v := ?_) rfl (by kernel_rfl) (by kernel_rfl) (by kernel_rfl) (fun _ _ _ h => h) (Or.inl ⟨by rfl, ?_⟩) (by assumption) ?_; rotate_left 1; (focus (intro wz hz; (try dsimp only at hz); (try simp only [List.getElem_toArray, List.getElem_cons_succ, List.getElem_cons_zero]); go_simp; (try (rw [if_neg (by (try simp only [ByteArray.size_append]); omega)])); try (with_reducible rfl); done)))
      try simp only [Act.put, List.getElem_toArray, List.getElem_cons_succ, List.getElem_cons_zero, List.setIfInBounds_toArray, List.set_cons_zero, List.set_cons_succ]
      (refine wpAnyH_take (i := 5) (v := ?_) rfl (by kernel_rfl) (by kernel_rfl) (by kernel_rfl) (fun _ _ _ h => h) (Or.inl ⟨by rfl, ?_⟩) (by assumption) ?_; rotate_left 1; (focus (intro wz hz; (try dsimp only at hz); (try simp only [List.getElem_toArray, List.getElem_cons_succ, List.getElem_cons_zero]); go_simp; (try (rw [if_neg (by (try simp only [ByteArray.size_append]); omega)])); try (with_reducible rfl); done)))
      try simp only [Act.put, List.getElem_toArray, List.getElem_cons_succ, List.getElem_cons_zero, List.setIfInBounds_toArray, List.set_cons_zero, List.set_cons_succ]
      (refine wpAnyH_take (i := 2) (v := ?_) rfl (by kernel_rfl) (by kernel_rfl) (by kernel_rfl) (fun _ _ _ h => h) (Or.inl ⟨by rfl, ?_⟩) (by assumption) ?_; rotate_left 1; (focus (intro wz hz; (try dsimp only at hz); (try simp only [List.getElem_toArray, List.getElem_cons_succ, List.getElem_cons_zero]); go_simp; (try (rw [if_neg (by (try simp only [ByteArray.size_append]); omega)])); try (with_reducible rfl); done)))
      try simp only [Act.put, List.getElem_toArray, List.getElem_cons_succ, List.getElem_cons_zero, List.setIfInBounds_toArray, List.set_cons_zero, List.set_cons_succ]
      (refine wpAnyH_take (i := 6) (v := ?_) rfl (by kernel_rfl) (by kernel_rfl) (by kernel_rfl) (fun _ _ _ h => h) (Or.inl ⟨by rfl, ?_⟩) (by assumption) ?_; rotate_left 1; (focus (intro wz hz; (try dsimp only at hz); (try simp only [List.getElem_toArray, List.getElem_cons_succ, List.getElem_cons_zero]); go_simp; (try (rw [if_neg (by (try simp only [ByteArray.size_append]); omega)])); try (with_reducible rfl); done)))
      try simp only [Act.put, List.getElem_toArray, List.getElem_cons_succ, List.getElem_cons_zero, List.setIfInBounds_toArray, List.set_cons_zero, List.set_cons_succ]
      (refine wpAnyH_take (i := 3) (v := ?_) rfl (by kernel_rfl) (by kernel_rfl) (by kernel_rfl) (fun _ _ _ h => h) (Or.inl ⟨by rfl, ?_⟩) (by assumption) ?_; rotate_left 1; (focus (intro wz hz; (try dsimp only at hz); (try simp only [List.getElem_toArray, List.getElem_cons_succ, List.getElem_cons_zero]); go_simp; (try (rw [if_neg (by (try simp only [ByteArray.size_append]); omega)])); try (with_reducible rfl); done)))
      try simp only [Act.put, List.getElem_toArray, List.getElem_cons_succ, List.getElem_cons_zero, List.setIfInBounds_toArray, List.set_cons_zero, List.set_cons_succ]
      (refine wpAnyH_take (i := 7) (v := ?_) rfl (by kernel_rfl) (by kernel_rfl) (by kernel_rfl) (fun _ _ _ h => h) (Or.inl ⟨by rfl, ?_⟩) (by assumption) ?_; rotate_left 1; (focus (intro wz hz; (try dsimp only at hz); (try simp only [List.getElem_toArray, List.getElem_cons_succ, List.getElem_cons_zero]); go_simp; (try (rw [if_neg (by (try simp only [ByteArray.size_append]); omega)])); try (with_reducible rfl); done)))
      try simp only [Act.put, List.getElem_toArray, List.getElem_cons_succ, List.getElem_cons_zero, List.setIfInBounds_toArray, List.set_cons_zero, List.set_cons_succ]
      (refine wpAnyH_take (i := 8) (v := ?_) rfl (by kernel_rfl) (by kernel_rfl) (by kernel_rfl) (fun _ _ _ h => h) (Or.inl ⟨by rfl, ?_⟩) (by assumption) ?_; rotate_left 1; (focus (intro wz hz; (try dsimp only at hz); (try simp only [List.getElem_toArray, List.getElem_cons_succ, List.getElem_cons_zero]); go_simp; (try (rw [if_neg (by (try simp only [ByteArray.size_append]); omega)])); try (with_reducible rfl); done)))
      try simp only [Act.put, List.getElem_toArray, List.getElem_cons_succ, List.getElem_cons_zero, List.setIfInBounds_toArray, List.set_cons_zero, List.set_cons_succ]
      refine wpAnyH_done (by kernel_rfl) ?_ _
      clear hHeld nq
      cases q with
      | true =>
        have HG2 := Lib.hid (HG.out (of_decide_eq_true HXY.out))
        go_wp2
        go_roundw
        case rel => exact ⟨k + 1, by go_num, by omega, HG2.out, hB.drew⟩
        case measure => simp [intOf]; omega
      | false =>
        have HF2 := Lib.hid (HF.out (of_decide_eq_false HXY.out))
        go_wp2
        go_ret
        exact ⟨ret_bool HF2.out.symm, hB.drew⟩
    · have HQ : Hid (decide (L = M) = true) := Lib.hid (decide_eq_true (List.ext_getElem hlen (fun j h1 h2 => HO.out j h1 h2 (by omega))))
      have hlt' : ¬ (k : Int) < L.length := by omega
      go_wp2
      go_ret
      exact ⟨ret_bool HQ.out.symm, hB⟩
set_option maxRecDepth 100000 in
set_option maxHeartbeats 4000000 in
theorem due_any (v : Value) (L : List Du) (w : World) (hv : IsR 2 duC w v L) (hl : L.length ≤ 1000000) :
    Calls Try.prog 13 #[v] w fun e w' => ∃ v', e = .returned v' ∧ OwnR 65 2 duC w' w.heap.size v' L ∧ Below w.heap.size w w' := by
  obtain ⟨p, cap, rfl, -, hp⟩ := hv
  have HP := Lib.hid hp
  clear hp
  go_enter Try.func13, Try.ntmps13
  go_wp2
  go_loopw [3, 4] (fun o i wr => ∃ k : Nat, i = .int .i64 k ∧ k ≤ L.length ∧ OwnR 65 2 duC wr w.heap.size o (L.take k) ∧ Below w.heap.size w wr) (fun _ i _ => L.length - (intOf i).toNat)
  case atStart => exact ⟨0, rfl, Nat.zero_le _, OwnR.nil _ _ _ _ _, Below.refl _ _⟩
  case round =>
    obtain ⟨k, rfl, hk, ho, hB⟩ := hrel
    have HO := Lib.hid ho
    have hz := hB.size
    clear ho
    by_cases hlt : k < L.length
    · have hlt' : (k : Int) < L.length := by omega
      obtain ⟨b, off, rfl, g⟩ := HP.out k hlt
      obtain ⟨d0, d1⟩ := (du2_of g).far hB
      have HN := Lib.hid (List.take_succ_eq_append_getElem hlt)
      have hsl : (L.take k).length ≤ 1000000 := by rw [List.length_take]; omega
      generalize L[k] = e at d0 d1 HN
      obtain ⟨s, t⟩ := e
      simp only at d0 d1
      clear g
      go_wp2_with (at_builtin; refine app_row lays_rdu duC_len duC_one rfl _ _ rfl w.heap.size _ [((s, t) : Du)] _ _ rfl (HO.out.alloc _) rfl (isR_one wr ((s, t) : Du) _ 1 rfl rfl) (by show _ + 1 ≤ _; omega) (by simp; omega) ?_; intro v5 w5 ho5 hb5 _ _)
      have hb5' : Below w.heap.size wr w5 := (below_alloc hz (Below.refl _ _) _).trans hb5
      go_roundw
      case rel => exact ⟨k + 1, by go_num, by omega, by rw [HN.out]; exact ho5, hB.trans hb5'⟩
      case measure => simp [intOf]; omega
    · obtain rfl : k = L.length := by omega
      have hO := HO.out
      rw [List.take_length] at hO
      have HOf := Lib.hid hO
      clear hO
      go_wp2
      go_ret
      exact ⟨_, rfl, HOf.out, hB⟩
/-- a number, not too great -/
def hldW (b : Int) : Int := max (-2199023255552) (min 2199023255552 b)
theorem hldW_bd (b : Int) : -2199023255552 ≤ hldW b ∧ hldW b ≤ 2199023255552 := by unfold hldW; omega
theorem held_any (a b : Int) (w : World) (h : 0 ≤ a ∧ a ≤ 1099511627776) : Calls Try.prog 12 #[.int .i64 a, .int .i64 b] w fun e w' => e = .returned (.int .i64 (a + hldW b)) ∧ w' = w := by
  have hb := hldW_bd b
  have hw : IntKind.i64.wrap (a + hldW b) = a + hldW b := IntWalk.i64_in _ (by omega)
  unfold hldW at hw ⊢
  go_enter Try.func12, Try.ntmps12
  go_wp2
  go_ret
  exact ⟨rfl, rfl⟩
end Go.Proofs.Ytcanaadcjipfjaa
