/- BucketWaits: tokens are there just as many ticks later as were told, and not one tick ahead: the statement holds for every input. No condition. -/
import Derived.Test.YtfahcdggoabdhaaB13W
import Derived.Test.YtfahcdggoabdhaaLawOpen13
namespace Go.Proofs.Ytfahcdggoabdhaa
open Go.RowKit Go.ChangeShapes Go.WideShapes Go.ChangeAt Go.ChangeMaps
set_option linter.unusedVariables false
set_option linter.unusedSimpArgs false

/-- block b holds these four bytes -/
def By4 (w : World) (b : Nat) (x y z t : Int) : Prop := w.cell? ⟨b, 0, none⟩ = some (.int .u8 x) ∧ w.cell? ⟨b, 1, none⟩ = some (.int .u8 y) ∧ w.cell? ⟨b, 2, none⟩ = some (.int .u8 z) ∧ w.cell? ⟨b, 3, none⟩ = some (.int .u8 t)
theorem By4.call {W w1 : World} {b : Nat} {x y z t : Int} (h : By4 W b x y z t) (hb : Below W.heap.size W w1) : By4 w1 b x y z t :=
  have hl := World.block_lt_of_cell? _ _ h.1
  ⟨(hb.cell (p := ⟨b, 0, none⟩) hl).trans h.1, (hb.cell (p := ⟨b, 1, none⟩) hl).trans h.2.1, (hb.cell (p := ⟨b, 2, none⟩) hl).trans h.2.2.1, (hb.cell (p := ⟨b, 3, none⟩) hl).trans h.2.2.2⟩
theorem list4 {α : Type} (l : List α) (h : l.length = 4) : ∃ a b c d, l = [a, b, c, d] := by
  match l, h with
  | [a, b, c, d], _ => exact ⟨a, b, c, d, rfl⟩
theorem open_four {H : Type} {enc : TypeId × Value → H} {w : World} {v : Value} {d : DataW H} {p : List MemPlace} {b0 : Nat}
    (hval : Value.okWide Try.prog w .any b0 61 v) (h : DataW.Trod enc Try.prog w 0 (fun _ => true) true 61 v d p) :
    ∃ n0 n1 n2 n3 : Int, v = .agg #[.int .u8 n0, .int .u8 n1, .int .u8 n2, .int .u8 n3] ∧ (0 ≤ n0 ∧ n0 ≤ 255) ∧ (0 ≤ n1 ∧ n1 ≤ 255) ∧ (0 ≤ n2 ∧ n2 ≤ 255) ∧ (0 ≤ n3 ∧ n3 ≤ 255) := by
  obtain ⟨⟨cs⟩, rfl, hsz, _⟩ : ∃ cs, v = .agg cs ∧ cs.size = Try.prog.cellsOf 61 ∧ Row.okWide Try.prog w .any b0 61 cs := by
    simpa [Value.okWide, Try.underlying61] using hval
  obtain ⟨fuel, hf⟩ := h
  obtain ⟨xs, m, _, _, hl, hx, hat⟩ := DataW.trod_array Try.underlying61 hf
  have hl' : cs.length = 4 := Eq.trans (b := Try.prog.cellsOf 61) hl (show Try.prog.cellsOf 61 = 4 by kernel_rfl)
  obtain ⟨c0, c1, c2, c3, rfl⟩ := list4 cs hl'
  rw [show Try.prog.cellsOf 5 = 1 by kernel_rfl] at hat
  have at' : ∀ i (hi : i < 4), ∃ n : Int, (([c0, c1, c2, c3] : List Value).drop (i * 1)).take 1 = [.int .u8 n] ∧ (0 ≤ n ∧ n ≤ 255) := fun i hi => by
    have h0 := hat i hi
    rw [List.getElem?_eq_getElem (by omega)] at h0
    obtain ⟨n, e, _, q⟩ := DataW.trod_int Try.underlying5 h0
    exact ⟨n, e, bounds_u8 q⟩
  obtain ⟨a0, h0, q0⟩ := at' 0 (by decide)
  obtain ⟨a1, h1, q1⟩ := at' 1 (by decide)
  obtain ⟨a2, h2, q2⟩ := at' 2 (by decide)
  obtain ⟨a3, h3, q3⟩ := at' 3 (by decide)
  simp at h0 h1 h2 h3
  subst h0 h1 h2 h3
  exact ⟨a0, a1, a2, a3, rfl, q0, q1, q2, q3⟩
set_option maxRecDepth 100000 in
set_option maxHeartbeats 16000000 in
theorem bwaits_walk (n0 n1 n2 n3 a m : Int) (w : World) (h0 : 0 ≤ n0 ∧ n0 ≤ 255) (h1 : 0 ≤ n1 ∧ n1 ≤ 255) (h2 : 0 ≤ n2 ∧ n2 ≤ 255) (h3 : 0 ≤ n3 ∧ n3 ≤ 255) (ha : 0 ≤ a ∧ a ≤ 65535) (hm : 0 ≤ m ∧ m ≤ 65535) :
    Calls Try.prog 6 #[.agg #[.int .u8 n0, .int .u8 n1, .int .u8 n2, .int .u8 n3], .int .u16 a, .int .u16 m] w fun e w' => e = .returned (.bool true) ∧ Below w.heap.size w w' := by
  have e0 : IntKind.i64.wrap n0 = n0 := IntWalk.i64_in _ (by omega)
  have e1 : IntKind.i64.wrap n1 = n1 := IntWalk.i64_in _ (by omega)
  have e2 : IntKind.i64.wrap n2 = n2 := IntWalk.i64_in _ (by omega)
  have e3 : IntKind.i64.wrap n3 = n3 := IntWalk.i64_in _ (by omega)
  have ea : IntKind.i64.wrap a = a := IntWalk.i64_in _ (by omega)
  have em : IntKind.i64.wrap m = m := IntWalk.i64_in _ (by omega)
  have eB : IntKind.i64.wrap (1 + n0) = 1 + n0 := IntWalk.i64_in _ (by omega)
  have eB1 : IntKind.i64.wrap (1 + n0 + 1) = 1 + n0 + 1 := IntWalk.i64_in _ (by omega)
  have en : IntKind.i64.wrap (a + m) = a + m := IntWalk.i64_in _ (by omega)
  have hmod : n2.tmod (1 + n0 + 1) = n2 % (1 + n0 + 1) := Int.tmod_eq_emod_of_nonneg h2.1
  have hmb1 := Int.emod_nonneg n2 (show (1 + n0 + 1) ≠ 0 by omega)
  have hmb2 := Int.emod_lt_of_pos n2 (show 0 < (1 + n0 + 1) by omega)
  have eT : IntKind.i64.wrap (n2 % (1 + n0 + 1)) = n2 % (1 + n0 + 1) := IntWalk.i64_in _ (by omega)
  have hnz : ¬ (1 + n0 + 1 = 0) := by omega
  have aw := Lib.hid (fun W => awake_any W)
  have hf : finB (1 + n0) n1 (n2 % (1 + n0 + 1)) a = true := fin_iff.2 ⟨⟨by omega, by omega⟩, by omega, by omega⟩
  go_enter Try.func6, Try.ntmps6
  go_upto_region 3 with fail
  refine gen_world (F := fun W => (By4 W w.heap.size n0 n1 n2 n3 ∧ Bx2 W (w.heap.size + 1) (1 + n0) n1 ∧ Bx2 W (w.heap.size + 2) (n2 % (1 + n0 + 1)) a) ∧ Below w.heap.size w W) ⟨⟨by simp [By4, go_sem], by simp [Bx2, go_sem], by simp [Bx2, go_sem]⟩, by (repeat (first | (with_reducible exact Below.refl _ _) | ((with_reducible refine below_alloc ?_ ?_ _); · (first | omega | (simp; done) | (simp; omega))) | ((with_reducible refine below_setCell ?_ ?_ _); · (first | omega | (simp; done) | (simp; omega))) | (with_reducible refine Below.drew ?_) | (with_reducible refine below_drewN ?_ _) | ((with_reducible refine below_call (by assumption) ?_ ?_); · (first | omega | (simp; done) | (simp; omega)))))⟩ (fun W hF => ?_)
  obtain ⟨⟨P, X, Y⟩, hB⟩ := hF
  have hP : ∀ w', Below W.heap.size W w' → (w'.cell? ⟨w.heap.size, 0, none⟩ = some (.int .u8 n0) ∧ w'.cell? ⟨w.heap.size, 1, none⟩ = some (.int .u8 n1) ∧ w'.cell? ⟨w.heap.size, 2, none⟩ = some (.int .u8 n2) ∧ w'.cell? ⟨w.heap.size, 3, none⟩ = some (.int .u8 n3)) := fun w' hb => P.call hb
  have HXY : Hid (∀ w', Below W.heap.size W w' → Bx2 w' (w.heap.size + 1) (1 + n0) n1 ∧ Bx2 w' (w.heap.size + 2) (n2 % (1 + n0 + 1)) a) := Lib.hid (fun w' hb => ⟨X.call hb, Y.call hb⟩)
  have hF0 : Below W.heap.size W W.drew := Below.drew (Below.refl _ _)
  clear P X Y
  refine wp_region_held_drew (S := fun w' => w'.cell? ⟨w.heap.size, 0, none⟩ = some (.int .u8 n0) ∧ w'.cell? ⟨w.heap.size, 1, none⟩ = some (.int .u8 n1) ∧ w'.cell? ⟨w.heap.size, 2, none⟩ = some (.int .u8 n2) ∧ w'.cell? ⟨w.heap.size, 3, none⟩ = some (.int .u8 n3)) (by kernel_rfl) (hP _ hF0) (fun hHeld => ?_)
  (refine wpAnyH_take (i := 0) (v := ?_) rfl (by kernel_rfl) (by kernel_rfl) (by kernel_rfl) (fun _ _ _ h => h) (Or.inl ⟨by rfl, ?_⟩) (by assumption) ?_; rotate_left 1; (focus (intro wz hz; (try dsimp only at hz); (try simp only [List.getElem_toArray, List.getElem_cons_succ, List.getElem_cons_zero]); go_simp; (try (rw [if_neg (by (try simp only [ByteArray.size_append]); omega)])); try (with_reducible rfl); done)))
  try simp only [Act.put, List.getElem_toArray, List.getElem_cons_succ, List.getElem_cons_zero, List.setIfInBounds_toArray, List.set_cons_zero, List.set_cons_succ]
  (refine wpAnyH_take (i := 2) (v := ?_) rfl (by kernel_rfl) (by kernel_rfl) (by kernel_rfl) (fun _ _ _ h => h) (Or.inl ⟨by rfl, ?_⟩) (by assumption) ?_; rotate_left 1; (focus (intro wz hz; (try dsimp only at hz); (try simp only [List.getElem_toArray, List.getElem_cons_succ, List.getElem_cons_zero]); go_simp; (try (rw [if_neg (by (try simp only [ByteArray.size_append]); omega)])); try (with_reducible rfl); done)))
  try simp only [Act.put, List.getElem_toArray, List.getElem_cons_succ, List.getElem_cons_zero, List.setIfInBounds_toArray, List.set_cons_zero, List.set_cons_succ]
  (refine wpAnyH_take (i := 5) (v := ?_) rfl (by kernel_rfl) (by kernel_rfl) (by kernel_rfl) (fun _ _ _ h => h) (Or.inl ⟨by rfl, ?_⟩) (by assumption) ?_; rotate_left 1; (focus (intro wz hz; (try dsimp only at hz); (try simp only [List.getElem_toArray, List.getElem_cons_succ, List.getElem_cons_zero]); go_simp; (try (rw [if_neg (by (try simp only [ByteArray.size_append]); omega)])); try (with_reducible rfl); done)))
  try simp only [Act.put, List.getElem_toArray, List.getElem_cons_succ, List.getElem_cons_zero, List.setIfInBounds_toArray, List.set_cons_zero, List.set_cons_succ]
  (refine wpAnyH_take (i := 1) (v := ?_) rfl (by kernel_rfl) (by kernel_rfl) (by kernel_rfl) (fun _ _ _ h => h) (Or.inl ⟨by rfl, ?_⟩) (by assumption) ?_; rotate_left 1; (focus (intro wz hz; (try dsimp only at hz); (try simp only [List.getElem_toArray, List.getElem_cons_succ, List.getElem_cons_zero]); go_simp; (try (rw [if_neg (by (try simp only [ByteArray.size_append]); omega)])); try (with_reducible rfl); done)))
  try simp only [Act.put, List.getElem_toArray, List.getElem_cons_succ, List.getElem_cons_zero, List.setIfInBounds_toArray, List.set_cons_zero, List.set_cons_succ]
  (refine wpAnyH_take (i := 3) (v := ?_) rfl (by kernel_rfl) (by kernel_rfl) (by kernel_rfl) (fun _ _ _ h => h) (Or.inl ⟨by rfl, ?_⟩) (by assumption) ?_; rotate_left 1; (focus (intro wz hz; (try dsimp only at hz); (try simp only [List.getElem_toArray, List.getElem_cons_succ, List.getElem_cons_zero]); go_simp; (try (rw [if_neg (by (try simp only [ByteArray.size_append]); omega)])); try (with_reducible rfl); done)))
  try simp only [Act.put, List.getElem_toArray, List.getElem_cons_succ, List.getElem_cons_zero, List.setIfInBounds_toArray, List.set_cons_zero, List.set_cons_succ]
  (refine wpAnyH_take (i := 6) (v := ?_) rfl (by kernel_rfl) (by kernel_rfl) (by kernel_rfl) (fun _ _ _ h => h) (Or.inl ⟨by rfl, ?_⟩) (by assumption) ?_; rotate_left 1; (focus (intro wz hz; (try dsimp only at hz); (try simp only [List.getElem_toArray, List.getElem_cons_succ, List.getElem_cons_zero]); go_simp; (try (rw [if_neg (by (try simp only [ByteArray.size_append]); omega)])); try (with_reducible rfl); done)))
  try simp only [Act.put, List.getElem_toArray, List.getElem_cons_succ, List.getElem_cons_zero, List.setIfInBounds_toArray, List.set_cons_zero, List.set_cons_succ]
  (refine wpAnyH_take (i := 4) (v := ?_) rfl (by kernel_rfl) (by kernel_rfl) (by kernel_rfl) (fun _ _ _ h => h) (Or.inl ⟨by rfl, ?_⟩) (by assumption) ?_; rotate_left 1; (focus (intro wz hz; (try dsimp only at hz); (try simp only [List.getElem_toArray, List.getElem_cons_succ, List.getElem_cons_zero]); go_simp; (try (rw [if_neg (by (try simp only [ByteArray.size_append]); omega)])); try (with_reducible rfl); done)))
  try simp only [Act.put, List.getElem_toArray, List.getElem_cons_succ, List.getElem_cons_zero, List.setIfInBounds_toArray, List.set_cons_zero, List.set_cons_succ]
  (refine wpAnyH_take (i := 7) (v := ?_) rfl (by kernel_rfl) (by kernel_rfl) (by kernel_rfl) (fun _ _ _ h => h) (Or.inl ⟨by rfl, ?_⟩) (by assumption) ?_; rotate_left 1; (focus (intro wz hz; (try dsimp only at hz); (try simp only [List.getElem_toArray, List.getElem_cons_succ, List.getElem_cons_zero]); go_simp; (try (rw [if_neg (by (try simp only [ByteArray.size_append]); omega)])); try (with_reducible rfl); done)))
  try simp only [Act.put, List.getElem_toArray, List.getElem_cons_succ, List.getElem_cons_zero, List.setIfInBounds_toArray, List.set_cons_zero, List.set_cons_succ]
  (refine wpAnyH_take (i := 8) (v := ?_) rfl (by kernel_rfl) (by kernel_rfl) (by kernel_rfl) (fun _ _ _ h => h) (Or.inl ⟨by rfl, ?_⟩) (by assumption) ?_; rotate_left 1; (focus (intro wz hz; (try dsimp only at hz); (try simp only [List.getElem_toArray, List.getElem_cons_succ, List.getElem_cons_zero]); go_simp; (try (rw [if_neg (by (try simp only [ByteArray.size_append]); omega)])); try (with_reducible rfl); done)))
  try simp only [Act.put, List.getElem_toArray, List.getElem_cons_succ, List.getElem_cons_zero, List.setIfInBounds_toArray, List.set_cons_zero, List.set_cons_succ]
  (refine wpAnyH_take (i := 9) (v := ?_) rfl (by kernel_rfl) (by kernel_rfl) (by kernel_rfl) (fun _ _ _ h => h) (Or.inl ⟨by rfl, ?_⟩) (by assumption) ?_; rotate_left 1; (focus (intro wz hz; (try dsimp only at hz); (try simp only [List.getElem_toArray, List.getElem_cons_succ, List.getElem_cons_zero]); go_simp; (try (rw [if_neg (by (try simp only [ByteArray.size_append]); omega)])); try (with_reducible rfl); done)))
  try simp only [Act.put, List.getElem_toArray, List.getElem_cons_succ, List.getElem_cons_zero, List.setIfInBounds_toArray, List.set_cons_zero, List.set_cons_succ]
  refine wpAnyH_done (by kernel_rfl) ?_ _
  obtain ⟨⟨x0, x1⟩, ⟨y0, y1⟩⟩ := HXY.out _ hF0
  generalize hBB : 1 + n0 = B at *
  generalize hTT : n2 % (B + 1) = T at *
  have hc := Lib.hid (bwait_any B n1 T a (a + m) n3 (by omega))
  have hB256 : 1 ≤ B ∧ B ≤ 256 := by omega
  clear x0 x1 y0 y1 e0 e1 e2 e3 ea em eB1 hmod hnz eT h0 h2 hBB hTT hP
  by_cases hw : B < n3
  · rw [wait_far hw] at hc
    simp only [twV] at hc
    obtain ⟨⟨x0, x1⟩, ⟨y0, y1⟩⟩ := HXY.out _ hF0
    go_wp2_with fail
    refine (hc.out _).mono ?_; rintro e w1 ⟨rfl, hb1⟩
    have B1 : Below W.heap.size W w1 := by (repeat (first | (with_reducible exact Below.refl _ _) | ((with_reducible refine below_alloc ?_ ?_ _); · (first | omega | (simp; done) | (simp; omega))) | ((with_reducible refine below_setCell ?_ ?_ _); · (first | omega | (simp; done) | (simp; omega))) | (with_reducible refine Below.drew ?_) | (with_reducible refine below_drewN ?_ _) | ((with_reducible refine below_call (by assumption) ?_ ?_); · (first | omega | (simp; done) | (simp; omega)))))
    have z1 := B1.size
    clear x0 x1 y0 y1
    obtain ⟨⟨x0, x1⟩, ⟨y0, y1⟩⟩ := HXY.out _ B1
    go_wp2_with fail
    refine (aw.out _).mono ?_; rintro e w2 ⟨rfl, hb2⟩
    have B2 := below_call hb2 B1.size B1
    go_wp2
    go_ret
    exact ⟨rfl, hB.trans (B2.mono hB.size)⟩
  by_cases hneg : waitN B n1 T a (a + m) n3 < 0
  · obtain ⟨hR, hlv⟩ := wait_no hf h3.1 (by omega) hneg
    have hlt := hlv (a + m + 65536)
    have cl := Lib.hid (blevel_any B n1 T a (a + m + 65536))
    generalize lvlN B n1 T a (a + m + 65536) = L at cl hlt
    generalize waitN B n1 T a (a + m) n3 = wv at hc hneg
    have en2 : IntKind.i64.wrap (a + m + 65536) = a + m + 65536 := IntWalk.i64_in _ (by omega)
    clear hlv
    subst hR
    simp only [twV] at hc cl
    obtain ⟨⟨x0, x1⟩, ⟨y0, y1⟩⟩ := HXY.out _ hF0
    go_wp2_with fail
    refine (hc.out _).mono ?_; rintro e w1 ⟨rfl, hb1⟩
    have B1 : Below W.heap.size W w1 := by (repeat (first | (with_reducible exact Below.refl _ _) | ((with_reducible refine below_alloc ?_ ?_ _); · (first | omega | (simp; done) | (simp; omega))) | ((with_reducible refine below_setCell ?_ ?_ _); · (first | omega | (simp; done) | (simp; omega))) | (with_reducible refine Below.drew ?_) | (with_reducible refine below_drewN ?_ _) | ((with_reducible refine below_call (by assumption) ?_ ?_); · (first | omega | (simp; done) | (simp; omega)))))
    have z1 := B1.size
    clear x0 x1 y0 y1
    obtain ⟨⟨x0, x1⟩, ⟨y0, y1⟩⟩ := HXY.out _ B1
    go_wp2_with fail
    refine (cl.out _).mono ?_; rintro e w2 ⟨rfl, hb2⟩
    have B2 := below_call hb2 B1.size B1
    clear x0 x1 y0 y1
    go_wp2_with fail
    refine (aw.out _).mono ?_; rintro e w3 ⟨rfl, hb3⟩
    have B3 := below_call hb3 B2.size B2
    go_wp2
    go_ret
    exact ⟨rfl, hB.trans (B3.mono hB.size)⟩
  obtain ⟨hge, hor, hle⟩ := wait_then hf (show a ≤ a + m by omega) (by omega) h3.1 (by omega) (by omega)
  generalize waitN B n1 T a (a + m) n3 = wv at hc hneg hge hor hle
  have ht : tkB B n1 T a (a + m + wv) n3 = true := by unfold tkB; rw [hf, decide_eq_true ⟨h3.1, hge⟩]; rfl
  have hfi := tk_fine (now := a + m + wv) (n := n3) hf
  have ct := Lib.hid (btake_any B n1 T a (a + m + wv) n3)
  rw [ht] at ct
  generalize tkT B n1 T a (a + m + wv) n3 = T2 at ct hfi
  generalize tkA B n1 T a (a + m + wv) n3 = A2 at ct hfi
  have cf := Lib.hid (bfine_any B n1 T2 A2)
  rw [hfi] at cf
  have cl := Lib.hid (blevel_any B n1 T a (a + m + wv - 1))
  have ck := Lib.hid (bdcheck_any B n1)
  rw [show cnfE B n1 = 0 from if_pos (cnf_iff.2 (by omega))] at ck
  have en2 : IntKind.i64.wrap (a + m + wv) = a + m + wv := IntWalk.i64_in _ (by omega)
  have en3 : IntKind.i64.wrap (a + m + wv - 1) = a + m + wv - 1 := IntWalk.i64_in _ (by omega)
  generalize lvlN B n1 T a (a + m + wv - 1) = L at cl hor
  simp only [twV] at hc ct cf cl ck
  clear ht hfi hge hf
  obtain ⟨⟨x0, x1⟩, ⟨y0, y1⟩⟩ := HXY.out _ hF0
  go_wp2_with fail
  refine (hc.out _).mono ?_; rintro e w1 ⟨rfl, hb1⟩
  have B1 : Below W.heap.size W w1 := by (repeat (first | (with_reducible exact Below.refl _ _) | ((with_reducible refine below_alloc ?_ ?_ _); · (first | omega | (simp; done) | (simp; omega))) | ((with_reducible refine below_setCell ?_ ?_ _); · (first | omega | (simp; done) | (simp; omega))) | (with_reducible refine Below.drew ?_) | (with_reducible refine below_drewN ?_ _) | ((with_reducible refine below_call (by assumption) ?_ ?_); · (first | omega | (simp; done) | (simp; omega)))))
  have z1 := B1.size
  clear x0 x1 y0 y1
  obtain ⟨⟨x0, x1⟩, ⟨y0, y1⟩⟩ := HXY.out _ B1
  go_wp2_with fail
  refine (ct.out _).mono ?_; rintro e w2 ⟨rfl, hb2⟩
  have B2 := below_call hb2 B1.size B1
  have z2 := B2.size
  clear x0 x1 y0 y1
  go_upto_region 10 with fail
  refine gen_world (F := fun V => (Bx2 V (w.heap.size + 1) B n1 ∧ Bx2 V (w.heap.size + 2) T a ∧ Bx2 V w2.heap.size T2 A2) ∧ Below w.heap.size w V) ⟨⟨(HXY.out _ (show Below W.heap.size W _ by (repeat (first | (with_reducible exact Below.refl _ _) | ((with_reducible refine below_alloc ?_ ?_ _); · (first | omega | (simp; done) | (simp; omega))) | ((with_reducible refine below_setCell ?_ ?_ _); · (first | omega | (simp; done) | (simp; omega))) | (with_reducible refine Below.drew ?_) | (with_reducible refine below_drewN ?_ _) | ((with_reducible refine below_call (by assumption) ?_ ?_); · (first | omega | (simp; done) | (simp; omega))))))).1, (HXY.out _ (show Below W.heap.size W _ by (repeat (first | (with_reducible exact Below.refl _ _) | ((with_reducible refine below_alloc ?_ ?_ _); · (first | omega | (simp; done) | (simp; omega))) | ((with_reducible refine below_setCell ?_ ?_ _); · (first | omega | (simp; done) | (simp; omega))) | (with_reducible refine Below.drew ?_) | (with_reducible refine below_drewN ?_ _) | ((with_reducible refine below_call (by assumption) ?_ ?_); · (first | omega | (simp; done) | (simp; omega))))))).2, by simp [Bx2, go_sem]⟩, hB.trans ((show Below W.heap.size W _ by (repeat (first | (with_reducible exact Below.refl _ _) | ((with_reducible refine below_alloc ?_ ?_ _); · (first | omega | (simp; done) | (simp; omega))) | ((with_reducible refine below_setCell ?_ ?_ _); · (first | omega | (simp; done) | (simp; omega))) | (with_reducible refine Below.drew ?_) | (with_reducible refine below_drewN ?_ _) | ((with_reducible refine below_call (by assumption) ?_ ?_); · (first | omega | (simp; done) | (simp; omega)))))).mono hB.size)⟩ (fun V hF => ?_)
  generalize w2.heap.size = bx at hF ⊢
  clear HXY hB B1 B2 z1 z2 hb1 hb2 hF0
  obtain ⟨HX, hB⟩ := hF
  have HV : Hid (∀ w', Below V.heap.size V w' → Bx2 w' (w.heap.size + 1) B n1 ∧ Bx2 w' (w.heap.size + 2) T a ∧ Bx2 w' bx T2 A2) := Lib.hid (fun w' hb => ⟨HX.1.call hb, HX.2.1.call hb, HX.2.2.call hb⟩)
  obtain ⟨⟨x0, x1⟩, ⟨y0, y1⟩, ⟨t0, t1⟩⟩ := HX
  go_wp2_with fail
  refine (cf.out _).mono ?_; rintro e w3 ⟨rfl, hb3⟩
  have B3 : Below V.heap.size V w3 := by (repeat (first | (with_reducible exact Below.refl _ _) | ((with_reducible refine below_alloc ?_ ?_ _); · (first | omega | (simp; done) | (simp; omega))) | ((with_reducible refine below_setCell ?_ ?_ _); · (first | omega | (simp; done) | (simp; omega))) | (with_reducible refine Below.drew ?_) | (with_reducible refine below_drewN ?_ _) | ((with_reducible refine below_call (by assumption) ?_ ?_); · (first | omega | (simp; done) | (simp; omega)))))
  have z3 := B3.size
  clear x0 x1 y0 y1 t0 t1
  obtain ⟨⟨x0, x1⟩, ⟨y0, y1⟩, _⟩ := HV.out _ B3
  by_cases h0 : wv = 0
  · subst h0
    clear hor
    go_wp2_with fail
    refine (ck.out _).mono ?_; rintro e w4 ⟨rfl, hb4⟩
    have B4 := below_call hb4 B3.size B3
    go_wp2_with fail
    refine (aw.out _).mono ?_; rintro e w5 ⟨rfl, hb5⟩
    have B5 := below_call hb5 B4.size B4
    go_wp2
    go_ret
    exact ⟨rfl, hB.trans (B5.mono hB.size)⟩
  · have hlt := hor.resolve_left h0
    clear hor
    go_wp2_with fail
    refine (cl.out _).mono ?_; rintro e w4 ⟨rfl, hb4⟩
    have B4 := below_call hb4 B3.size B3
    clear x0 x1 y0 y1
    obtain ⟨⟨x0, x1⟩, ⟨y0, y1⟩, _⟩ := HV.out _ B4
    go_wp2_with fail
    refine (ck.out _).mono ?_; rintro e w5 ⟨rfl, hb5⟩
    have B5 := below_call hb5 B4.size B4
    go_wp2_with fail
    refine (aw.out _).mono ?_; rintro e w6 ⟨rfl, hb6⟩
    have B6 := below_call hb6 B5.size B5
    go_wp2
    go_ret
    exact ⟨rfl, hB.trans (B6.mono hB.size)⟩

set_option maxRecDepth 100000 in
theorem bwaits_lifted (os : Os) (started : os.Started) (H : Type) (enc : TypeId × Value → H) :
    ReturnsInHanded {} Try.checked os 6 .any (Rows.bucketWaitsSpec.pre6 enc Try.prog Try.f6 Rows.bucketWaitsRow.domain false) (Rows.bucketWaitsSpec.post enc Try.prog Try.f6 false true false false) := by
  refine returnsInHanded_of_change (C := Try.checked) own started (by kernel_rfl) Try.func6
    (ChangeSpec.witness6 (enc := enc) (C := Try.checked) false ⟨#[], #[.agg #[.int .u8 0, .int .u8 0, .int .u8 0, .int .u8 0], .int .u16 0, .int .u16 0], []⟩ 8 (by kernel_rfl) (by kernel_rfl) (by kernel_rfl) (by kernel_rfl)) ?_
  intro W base args ds gs before hval0 hW hcnd _
  have hval : ∀ (j : Nat) t v, Try.f6.params[j]? = some t → args[j]? = some v → Value.okWide Try.prog W .any base t v := hval0
  have hW' := hW
  obtain ⟨p, q, hA0, hV, rfl, hfz, hnd⟩ := hW
  have hA : DataW.TrodAll enc Try.prog W 0 (fun _ => true) true Try.f6.params.toList args.toList ds p := hA0
  rw [Try.params6] at hA hval
  obtain ⟨v0, vs0, d0, ds0, p0, q0, hargs, rfl, rfl, h0, r0⟩ := trodAll_cons hA
  obtain ⟨v1, vs1, d1, ds1, p1, q1, rfl, rfl, rfl, h1, r1⟩ := trodAll_cons r0
  obtain ⟨v2, vs2, d2, ds2, p2, q2, rfl, rfl, rfl, h2, r2⟩ := trodAll_cons r1
  obtain ⟨rfl, rfl, rfl⟩ := trodAll_nil r2
  obtain rfl : args = #[v0, v1, v2] := by cases args; simp_all
  obtain ⟨rfl, rfl⟩ := trodVars_none hV
  obtain ⟨n0, n1, n2, n3, rfl, q0, q1, q2, q3⟩ := open_four (hval 0 61 v0 rfl rfl) h0
  obtain ⟨a, rfl, rfl, rfl, wa⟩ := open_int Try.underlying62 (hval 1 62 v1 rfl rfl) h1
  obtain ⟨m, rfl, rfl, rfl, wm⟩ := open_int Try.underlying62 (hval 2 62 v2 rfl rfl) h2
  refine (bwaits_walk n0 n1 n2 n3 a m W q0 q1 q2 q3 (bounds_u16 wa) (bounds_u16 wm)).mono fun e W' ⟨he, hb⟩ => ?_
  subst he
  exact ⟨_, rfl, law_post rfl rfl Try.underlying4 (by kernel_rfl) rfl hW' hb⟩
theorem bwaits_holds : Rows.BucketWaitsSaid :=
  OpenClaim.holds_of_wide 6 Try.f6 rfl rfl rfl rfl rfl rfl rfl ⟨rfl, rfl, rfl, rfl, rfl⟩ rfl rfl rfl rfl rfl (by kernel_rfl) Try.func6 (by kernel_rfl)
    (of_decide_eq_true (by kernel_rfl)) (by unfold Func.isWrapper; first | (rw [if_pos (by decide +kernel)]; kernel_rfl) | (rw [if_neg (by decide +kernel)]; exact ⟨rfl, rfl⟩))
    (fun os started H enc _ => bwaits_lifted os started H enc)
end Go.Proofs.Ytfahcdggoabdhaa
