/- Layer 14, the program's: slices.IndexFunc at both function values; Check. -/
import Derived.Test.YtpmabkegjdjodaaP14A
import Derived.Test.YtpmabkegjdjodaaKitE
namespace Go.Proofs.Ytpmabkegjdjodaa
open Go.RowKit
set_option linter.unusedVariables false
set_option linter.unusedSimpArgs false

def badF (B R : Int) (e : En) : Bool := !(mayS e.1 && finB B R e.2.1 e.2.2)
/-- what the function value of Clean reads -/
def Bx3C (W : World) (b0 b1 b2 : Nat) (B R now s T A : Int) : Prop := (W.cell? ⟨b0, 0, none⟩ = some (.int .i64 B) ∧ W.cell? ⟨b0, 1, none⟩ = some (.int .i64 R)) ∧ W.cell? ⟨b1, 0, none⟩ = some (.int .i64 now) ∧ W.cell? ⟨b2, 0, none⟩ = some (.int .i64 s) ∧ W.cell? ⟨b2, 1, none⟩ = some (.int .i64 T) ∧ W.cell? ⟨b2, 2, none⟩ = some (.int .i64 A)
theorem Bx3C.call {W w1 : World} {b0 b1 b2 : Nat} {B R now s T A : Int} (h : Bx3C W b0 b1 b2 B R now s T A) (hb : Below W.heap.size W w1) : Bx3C w1 b0 b1 b2 B R now s T A := by
  obtain ⟨⟨h1, h2⟩, h3, h4, h5, h6⟩ := h
  exact ⟨⟨(hb.cell (World.block_lt_of_cell? _ _ h1)).trans h1, (hb.cell (World.block_lt_of_cell? _ _ h2)).trans h2⟩, (hb.cell (World.block_lt_of_cell? _ _ h3)).trans h3, (hb.cell (World.block_lt_of_cell? _ _ h4)).trans h4, (hb.cell (World.block_lt_of_cell? _ _ h5)).trans h5, (hb.cell (World.block_lt_of_cell? _ _ h6)).trans h6⟩
def fulF (B R now : Int) (e : En) : Bool := decide (lvlN B R e.2.1 e.2.2 now = B)
set_option maxRecDepth 100000 in
set_option maxHeartbeats 2000000 in
theorem idxbad_any (B R : Int) (b0 : Nat) (v : Value) (L : List En) (w : World) (hv : IsR 3 enC w v L) (hl : L.length ≤ 1000000) (h0 : Bx2 w b0 B R) :
    Calls Try.prog 58 #[v, .func (.func 41) #[] #[.pointer (some ⟨b0, 0, none⟩)]] w fun e w' => ∃ r : Int, e = .returned (.int .i64 r) ∧
      ((r = -1 ∧ ∀ j (hj : j < L.length), badF B R L[j] = false) ∨ ∃ k : Nat, r = k ∧ ∃ hk : k < L.length, badF B R L[k] = true ∧ ∀ j (hj : j < L.length), j < k → badF B R L[j] = false) ∧ Below w.heap.size w w' := by
  obtain ⟨p, cap, rfl, -, hp⟩ := hv
  have HP := Lib.hid hp
  have cC : Hid (∀ (e : En) (W : World), Below w.heap.size w W → Calls Try.prog 41 #[.agg #[.int .i64 e.1, .int .i64 e.2.1, .int .i64 e.2.2], .pointer (some ⟨b0, 0, none⟩)] W fun r w' => r = .returned (.bool (badF B R e)) ∧ Below W.heap.size W w') := Lib.hid (fun e W hb => chk1_any B R e.1 e.2.1 e.2.2 b0 W (h0.call hb))
  clear hp
  go_enter Try.func58, Try.ntmps58
  go_wp2
  go_loopw [8] (fun i wr => ∃ k : Nat, i = .int .i64 k ∧ k ≤ L.length ∧ (∀ j (hj : j < L.length), j < k → badF B R L[j] = false) ∧ Below w.heap.size w wr) (fun i _ => L.length - (intOf i).toNat)
  case atStart => exact ⟨0, rfl, by omega, fun j hj h => by omega, Below.refl _ _⟩
  case round =>
    obtain ⟨k, rfl, hk, hok, hB⟩ := hrel
    have HK := Lib.hid hok
    clear hok
    by_cases hlt : k < L.length
    · have hlt' : (k : Int) < L.length := by omega
      obtain ⟨b, off, rfl, g⟩ := HP.out k hlt
      obtain ⟨c0, c1, c2⟩ := (en3_of g).far hB
      obtain ⟨x, hx⟩ : ∃ x, L[k] = x := ⟨_, rfl⟩
      rw [hx] at c0 c1 c2
      have HX := Lib.hid hx
      clear g hx
      have hcon := cC.out x wr hB
      obtain ⟨s, T, A⟩ := x
      simp only at c0 c1 c2 hcon
      cases hb : badF B R (s, T, A)
      · rw [hb] at hcon
        have HB := Lib.hid hb
        clear hb
        go_wp2_with (go_at_call 41; refine hcon.mono ?_; rintro e w2 ⟨rfl, hb2⟩)
        go_roundw
        case rel => exact ⟨k + 1, by go_num, by omega, fun j hj hjk => by
          by_cases e : j = k
          · subst e; rw [HX.out]; exact HB.out
          · exact HK.out j hj (by omega), hB.trans (hb2.mono hB.size)⟩
        case measure => simp [intOf]; omega
      · rw [hb] at hcon
        have HB := Lib.hid hb
        clear hb
        go_wp2_with (go_at_call 41; refine hcon.mono ?_; rintro e w2 ⟨rfl, hb2⟩)
        go_ret
        exact ⟨_, rfl, .inr ⟨k, rfl, hlt, by rw [HX.out]; exact HB.out, HK.out⟩, hB.trans (hb2.mono hB.size)⟩
    · obtain rfl : k = L.length := by omega
      go_wp2
      go_ret
      exact ⟨_, rfl, .inl ⟨rfl, fun j hj => HK.out j hj hj⟩, hB⟩
set_option maxRecDepth 100000 in
set_option maxHeartbeats 2000000 in
theorem anybad_any (B R : Int) (b0 : Nat) (v : Value) (L : List En) (w : World) (hv : IsR 3 enC w v L) (hl : L.length ≤ 1000000) (h0 : Bx2 w b0 B R) :
    Calls Try.prog 44 #[v, .func (.func 41) #[] #[.pointer (some ⟨b0, 0, none⟩)]] w fun e w' => e = .returned (.bool (L.any (badF B R))) ∧ Below w.heap.size w w' := by
  have c := Lib.hid (idxbad_any B R b0 v L w hv hl h0)
  obtain ⟨p, cap, rfl, -, hp⟩ := hv
  clear hp
  go_enter Try.func44, Try.ntmps44
  go_wp2_with fail
  refine c.out.mono ?_; rintro e w1 ⟨r, rfl, hr, hb1⟩
  have HR : Hid (decide (0 ≤ r) = L.any (badF B R)) := Lib.hid (by
    rcases hr with ⟨rfl, h⟩ | ⟨k, rfl, hk, h, -⟩
    · rw [List.any_eq_false.2 (fun x hx => by obtain ⟨j, hj, rfl⟩ := List.getElem_of_mem hx; rw [h j hj]; decide)]; rfl
    · rw [List.any_eq_true.2 ⟨_, List.getElem_mem hk, h⟩]; simp)
  clear hr
  go_wp2
  go_ret
  exact ⟨ret_bool HR.out, hb1⟩
theorem any_bad {B R : Int} {L : List En} : L.any (badF B R) = !(L.all fun e => mayS e.1 && finB B R e.2.1 e.2.2) := by
  rw [List.not_all_eq_any_not]
  rfl
set_option maxRecDepth 100000 in
set_option maxHeartbeats 4000000 in
theorem pscheck_any (B R : Int) (v : Value) (L : List En) (w : World) (hv : IsR 3 enC w v L) (hl : L.length ≤ 1000000) : Calls Try.prog 18 #[twV B R, v] w fun e w' => e = .returned (.int .i64 (chkS14 B R L)) ∧ Below w.heap.size w w' := by
  have HV := Lib.hid hv
  obtain ⟨p, cap, rfl, -, hp⟩ := hv
  clear hp
  have c0 := Lib.hid (fun W => bcheck_any B R W)
  have cA := Lib.hid (fun W (hb : Below w.heap.size w W) (h : Bx2 W w.heap.size B R) => anybad_any B R w.heap.size _ L W (HV.out.call hb) hl h)
  have cR := Lib.hid (fun W (hb : Below w.heap.size w W) => rise_any _ L W (HV.out.call hb) hl)
  have X0 : Hid (∀ t, Bx2 (w.alloc (.cells #[.int .i64 B, .int .i64 R] t)) w.heap.size B R) := Lib.hid (fun t => by simp [Bx2, go_sem])
  simp only [twV] at *
  by_cases hc : cnfB B R = true
  case neg =>
    have HQ := Lib.hid (chk_cnf (L := L) (by simpa using hc))
    rw [show cnfE B R = 8 from if_neg hc] at c0
    clear hc
    go_enter Try.func18, Try.ntmps18
    go_wp2_with fail
    refine (c0.out _).mono ?_; rintro e w1 ⟨rfl, hb1⟩
    have B1 : Below w.heap.size w w1 := by (repeat (first | (with_reducible exact Below.refl _ _) | ((with_reducible refine below_alloc ?_ ?_ _); · (first | omega | (simp; done) | (simp; omega))) | ((with_reducible refine below_setCell ?_ ?_ _); · (first | omega | (simp; done) | (simp; omega))) | (with_reducible refine Below.drew ?_) | (with_reducible refine below_drewN ?_ _) | ((with_reducible refine below_call (by assumption) ?_ ?_); · (first | omega | (simp; done) | (simp; omega)))))
    go_wp2
    go_ret
    exact ⟨ret_int HQ.out.symm, B1⟩
  rw [show cnfE B R = 0 from if_pos hc] at c0
  by_cases h8 : L.length ≤ 8
  case neg =>
    have HQ := Lib.hid (chk_long (L := L) hc (by omega))
    have h8' : (8 : Int) < L.length := by omega
    clear hc h8
    go_enter Try.func18, Try.ntmps18
    go_wp2_with fail
    refine (c0.out _).mono ?_; rintro e w1 ⟨rfl, hb1⟩
    have B1 : Below w.heap.size w w1 := by (repeat (first | (with_reducible exact Below.refl _ _) | ((with_reducible refine below_alloc ?_ ?_ _); · (first | omega | (simp; done) | (simp; omega))) | ((with_reducible refine below_setCell ?_ ?_ _); · (first | omega | (simp; done) | (simp; omega))) | (with_reducible refine Below.drew ?_) | (with_reducible refine below_drewN ?_ _) | ((with_reducible refine below_call (by assumption) ?_ ?_); · (first | omega | (simp; done) | (simp; omega)))))
    go_wp2
    go_ret
    exact ⟨ret_int HQ.out.symm, B1⟩
  have h8' : ¬ (8 : Int) < L.length := by omega
  have HQ : Hid (chkS14 B R L = if L.any (badF B R) = true then 8 else if ascB L = true then 0 else 10) := Lib.hid (by
    unfold chkS14
    rw [if_neg (by rw [hc]; decide), if_neg (by omega), any_bad]
    cases (L.all fun e => mayS e.1 && finB B R e.2.1 e.2.2)
    · simp
    · cases ascB L <;> simp)
  clear hc
  generalize chkS14 B R L = E at HQ ⊢
  generalize L.any (badF B R) = bad at cA HQ
  generalize ascB L = asc at cR HQ
  cases bad with
  | true =>
    go_enter Try.func18, Try.ntmps18
    go_wp2_with fail
    refine (c0.out _).mono ?_; rintro e w1 ⟨rfl, hb1⟩
    have B1 : Below w.heap.size w w1 := by (repeat (first | (with_reducible exact Below.refl _ _) | ((with_reducible refine below_alloc ?_ ?_ _); · (first | omega | (simp; done) | (simp; omega))) | ((with_reducible refine below_setCell ?_ ?_ _); · (first | omega | (simp; done) | (simp; omega))) | (with_reducible refine Below.drew ?_) | (with_reducible refine below_drewN ?_ _) | ((with_reducible refine below_call (by assumption) ?_ ?_); · (first | omega | (simp; done) | (simp; omega)))))
    have X1 := (X0.out _).call hb1
    go_wp2_with fail
    refine (cA.out _ B1 X1).mono ?_; rintro e w2 ⟨rfl, hb2⟩
    have B2 := B1.trans (hb2.mono B1.size)
    go_wp2
    go_ret
    exact ⟨ret_int HQ.out.symm, B2⟩
  | false =>
    cases asc with
    | true =>
      go_enter Try.func18, Try.ntmps18
      go_wp2_with fail
      refine (c0.out _).mono ?_; rintro e w1 ⟨rfl, hb1⟩
      have B1 : Below w.heap.size w w1 := by (repeat (first | (with_reducible exact Below.refl _ _) | ((with_reducible refine below_alloc ?_ ?_ _); · (first | omega | (simp; done) | (simp; omega))) | ((with_reducible refine below_setCell ?_ ?_ _); · (first | omega | (simp; done) | (simp; omega))) | (with_reducible refine Below.drew ?_) | (with_reducible refine below_drewN ?_ _) | ((with_reducible refine below_call (by assumption) ?_ ?_); · (first | omega | (simp; done) | (simp; omega)))))
      have X1 := (X0.out _).call hb1
      go_wp2_with fail
      refine (cA.out _ B1 X1).mono ?_; rintro e w2 ⟨rfl, hb2⟩
      have B2 := B1.trans (hb2.mono B1.size)
      go_wp2_with fail
      refine (cR.out _ B2).mono ?_; rintro e w3 ⟨rfl, hb3⟩
      have B3 := B2.trans (hb3.mono B2.size)
      go_wp2
      go_ret
      exact ⟨ret_int HQ.out.symm, B3⟩
    | false =>
      go_enter Try.func18, Try.ntmps18
      go_wp2_with fail
      refine (c0.out _).mono ?_; rintro e w1 ⟨rfl, hb1⟩
      have B1 : Below w.heap.size w w1 := by (repeat (first | (with_reducible exact Below.refl _ _) | ((with_reducible refine below_alloc ?_ ?_ _); · (first | omega | (simp; done) | (simp; omega))) | ((with_reducible refine below_setCell ?_ ?_ _); · (first | omega | (simp; done) | (simp; omega))) | (with_reducible refine Below.drew ?_) | (with_reducible refine below_drewN ?_ _) | ((with_reducible refine below_call (by assumption) ?_ ?_); · (first | omega | (simp; done) | (simp; omega)))))
      have X1 := (X0.out _).call hb1
      go_wp2_with fail
      refine (cA.out _ B1 X1).mono ?_; rintro e w2 ⟨rfl, hb2⟩
      have B2 := B1.trans (hb2.mono B1.size)
      go_wp2_with fail
      refine (cR.out _ B2).mono ?_; rintro e w3 ⟨rfl, hb3⟩
      have B3 := B2.trans (hb3.mono B2.size)
      go_wp2
      go_ret
      exact ⟨ret_int HQ.out.symm, B3⟩
set_option maxRecDepth 100000 in
set_option maxHeartbeats 2000000 in
/-- is a bucket full? (the function value that Clean keeps) -/
theorem cln1_any (B R now s T A : Int) (b0 b1 : Nat) (w : World) (h0 : Bx2 w b0 B R) (h1 : w.cell? ⟨b1, 0, none⟩ = some (.int .i64 now)) :
    Calls Try.prog 39 #[.agg #[.int .i64 s, .int .i64 T, .int .i64 A], .pointer (some ⟨b0, 0, none⟩), .pointer (some ⟨b1, 0, none⟩)] w fun e w' => e = .returned (.bool (decide (lvlN B R T A now = B))) ∧ Below w.heap.size w w' := by
  have cL := Lib.hid (fun W => blevel_any B R T A now W)
  obtain ⟨x0, x1⟩ := id h0
  have hlt : b0 < w.heap.size := World.block_lt_of_cell? _ _ x0
  have hlt1 : b1 < w.heap.size := World.block_lt_of_cell? _ _ h1
  have hne : b0 ≠ w.heap.size := by omega
  have hne1 : b1 ≠ w.heap.size := by omega
  simp only [twV] at *
  generalize lvlN B R T A now = lv at cL ⊢
  have hout0 : Hid (Bx3C (w.alloc (.cells #[.int .i64 s, .int .i64 T, .int .i64 A] 64)) b0 b1 w.heap.size B R now s T A) := Lib.hid (by
    have hb : Below w.heap.size w (w.alloc (.cells #[.int .i64 s, .int .i64 T, .int .i64 A] 64)) := below_alloc (Nat.le_refl _) (Below.refl _ _) _
    exact ⟨⟨(hb.cell (p := ⟨b0, 0, none⟩) hlt).trans x0, (hb.cell (p := ⟨b0, 1, none⟩) hlt).trans x1⟩, (hb.cell (p := ⟨b1, 0, none⟩) hlt1).trans h1, by simp [go_sem], by simp [go_sem], by simp [go_sem]⟩)
  clear h0 h1 x0 x1 hne hne1
  go_enter Try.func39, Try.ntmps39
  go_upto_region 1 with fail
  refine gen_world (F := fun W => Bx3C W b0 b1 w.heap.size B R now s T A ∧ Below w.heap.size w W) ⟨hout0.out, by (repeat (first | (with_reducible exact Below.refl _ _) | ((with_reducible refine below_alloc ?_ ?_ _); · (first | omega | (simp; done) | (simp; omega))) | ((with_reducible refine below_setCell ?_ ?_ _); · (first | omega | (simp; done) | (simp; omega))) | (with_reducible refine Below.drew ?_) | (with_reducible refine below_drewN ?_ _) | ((with_reducible refine below_call (by assumption) ?_ ?_); · (first | omega | (simp; done) | (simp; omega)))))⟩ (fun wt hF => ?_)
  obtain ⟨hX, hB⟩ := hF
  have hout : Hid (∀ W, Below wt.heap.size wt W → Bx3C W b0 b1 w.heap.size B R now s T A) := Lib.hid (fun W hb => hX.call hb)
  have hT : Below wt.heap.size wt wt.drew := Below.drew (Below.refl _ _)
  clear hX hout0
  refine wp_region_held_drew (S := fun W => (W.cell? ⟨b0, 0, none⟩ = some (.int .i64 B) ∧ W.cell? ⟨b0, 1, none⟩ = some (.int .i64 R)) ∧ W.cell? ⟨b1, 0, none⟩ = some (.int .i64 now) ∧ W.cell? ⟨w.heap.size, 0, none⟩ = some (.int .i64 s) ∧ W.cell? ⟨w.heap.size, 1, none⟩ = some (.int .i64 T) ∧ W.cell? ⟨w.heap.size, 2, none⟩ = some (.int .i64 A)) (by kernel_rfl) (hout.out _ (by assumption)) (fun hHeld => ?_)
  (refine wpAnyH_take (i := 0) (v := ?_) rfl (by kernel_rfl) (by kernel_rfl) (by kernel_rfl) (fun _ _ _ h => h) (Or.inl ⟨by rfl, ?_⟩) (by assumption) ?_; rotate_left 1; (focus (intro wz hz; (try dsimp only at hz); (try simp only [List.getElem_toArray, List.getElem_cons_succ, List.getElem_cons_zero]); go_simp; (try (rw [if_neg (by (try simp only [ByteArray.size_append]); omega)])); try (with_reducible rfl); done)))
  try simp only [Act.put, List.getElem_toArray, List.getElem_cons_succ, List.getElem_cons_zero, List.setIfInBounds_toArray, List.set_cons_zero, List.set_cons_succ]
  (refine wpAnyH_take (i := 1) (v := ?_) rfl (by kernel_rfl) (by kernel_rfl) (by kernel_rfl) (fun _ _ _ h => h) (Or.inl ⟨by rfl, ?_⟩) (by assumption) ?_; rotate_left 1; (focus (intro wz hz; (try dsimp only at hz); (try simp only [List.getElem_toArray, List.getElem_cons_succ, List.getElem_cons_zero]); go_simp; (try (rw [if_neg (by (try simp only [ByteArray.size_append]); omega)])); try (with_reducible rfl); done)))
  try simp only [Act.put, List.getElem_toArray, List.getElem_cons_succ, List.getElem_cons_zero, List.setIfInBounds_toArray, List.set_cons_zero, List.set_cons_succ]
  (refine wpAnyH_take (i := 3) (v := ?_) rfl (by kernel_rfl) (by kernel_rfl) (by kernel_rfl) (fun _ _ _ h => h) (Or.inl ⟨by rfl, ?_⟩) (by assumption) ?_; rotate_left 1; (focus (intro wz hz; (try dsimp only at hz); (try simp only [List.getElem_toArray, List.getElem_cons_succ, List.getElem_cons_zero]); go_simp; (try (rw [if_neg (by (try simp only [ByteArray.size_append]); omega)])); try (with_reducible rfl); done)))
  try simp only [Act.put, List.getElem_toArray, List.getElem_cons_succ, List.getElem_cons_zero, List.setIfInBounds_toArray, List.set_cons_zero, List.set_cons_succ]
  (refine wpAnyH_take (i := 5) (v := ?_) rfl (by kernel_rfl) (by kernel_rfl) (by kernel_rfl) (fun _ _ _ h => h) (Or.inl ⟨by rfl, ?_⟩) (by assumption) ?_; rotate_left 1; (focus (intro wz hz; (try dsimp only at hz); (try simp only [List.getElem_toArray, List.getElem_cons_succ, List.getElem_cons_zero]); go_simp; (try (rw [if_neg (by (try simp only [ByteArray.size_append]); omega)])); try (with_reducible rfl); done)))
  try simp only [Act.put, List.getElem_toArray, List.getElem_cons_succ, List.getElem_cons_zero, List.setIfInBounds_toArray, List.set_cons_zero, List.set_cons_succ]
  (refine wpAnyH_take (i := 2) (v := ?_) rfl (by kernel_rfl) (by kernel_rfl) (by kernel_rfl) (fun _ _ _ h => h) (Or.inl ⟨by rfl, ?_⟩) (by assumption) ?_; rotate_left 1; (focus (intro wz hz; (try dsimp only at hz); (try simp only [List.getElem_toArray, List.getElem_cons_succ, List.getElem_cons_zero]); go_simp; (try (rw [if_neg (by (try simp only [ByteArray.size_append]); omega)])); try (with_reducible rfl); done)))
  try simp only [Act.put, List.getElem_toArray, List.getElem_cons_succ, List.getElem_cons_zero, List.setIfInBounds_toArray, List.set_cons_zero, List.set_cons_succ]
  (refine wpAnyH_take (i := 6) (v := ?_) rfl (by kernel_rfl) (by kernel_rfl) (by kernel_rfl) (fun _ _ _ h => h) (Or.inl ⟨by rfl, ?_⟩) (by assumption) ?_; rotate_left 1; (focus (intro wz hz; (try dsimp only at hz); (try simp only [List.getElem_toArray, List.getElem_cons_succ, List.getElem_cons_zero]); go_simp; (try (rw [if_neg (by (try simp only [ByteArray.size_append]); omega)])); try (with_reducible rfl); done)))
  try simp only [Act.put, List.getElem_toArray, List.getElem_cons_succ, List.getElem_cons_zero, List.setIfInBounds_toArray, List.set_cons_zero, List.set_cons_succ]
  (refine wpAnyH_ready (rs := [4]) (by kernel_rfl) (by simp) ?_; refine AllReadyH.cons rfl (fun K hK => ?_) AllReadyH.nil; (try simp only [List.getElem_toArray, List.getElem_cons_succ, List.getElem_cons_zero]); go_simp; go_at_call 27; refine (cL.out _).mono ?_; rintro e wn4 ⟨rfl, hbn4⟩; have hT4 : Below wt.heap.size wt wn4 := hT.trans (hbn4.mono hT.size); (try (go_wp2_with fail)); refine hK.out _ _ (hout.out _ (by assumption)) (fun hHeld => ?_); clear hK K)
  try simp only [Act.put, List.getElem_toArray, List.getElem_cons_succ, List.getElem_cons_zero, List.setIfInBounds_toArray, List.set_cons_zero, List.set_cons_succ]
  (refine wpAnyH_take (i := 7) (v := ?_) rfl (by kernel_rfl) (by kernel_rfl) (by kernel_rfl) (fun _ _ _ h => h) (Or.inl ⟨by rfl, ?_⟩) (by assumption) ?_; rotate_left 1; (focus (intro wz hz; (try dsimp only at hz); (try simp only [List.getElem_toArray, List.getElem_cons_succ, List.getElem_cons_zero]); go_simp; (try (rw [if_neg (by (try simp only [ByteArray.size_append]); omega)])); try (with_reducible rfl); done)))
  try simp only [Act.put, List.getElem_toArray, List.getElem_cons_succ, List.getElem_cons_zero, List.setIfInBounds_toArray, List.set_cons_zero, List.set_cons_succ]
  (refine wpAnyH_take (i := 8) (v := ?_) rfl (by kernel_rfl) (by kernel_rfl) (by kernel_rfl) (fun _ _ _ h => h) (Or.inl ⟨by rfl, ?_⟩) (by assumption) ?_; rotate_left 1; (focus (intro wz hz; (try dsimp only at hz); (try simp only [List.getElem_toArray, List.getElem_cons_succ, List.getElem_cons_zero]); go_simp; (try (rw [if_neg (by (try simp only [ByteArray.size_append]); omega)])); try (with_reducible rfl); done)))
  try simp only [Act.put, List.getElem_toArray, List.getElem_cons_succ, List.getElem_cons_zero, List.setIfInBounds_toArray, List.set_cons_zero, List.set_cons_succ]
  refine wpAnyH_done (by kernel_rfl) ?_ _
  clear hHeld
  have B1 : Below w.heap.size w wn4 := hB.trans (hT4.mono hB.size)
  go_wp2
  go_ret
  exact ⟨by first | rfl | exact ret_bool (by first | rfl | (simp [BEq.beq]) ), B1⟩
set_option maxRecDepth 100000 in
set_option maxHeartbeats 2000000 in
theorem idxful_any (B R now : Int) (b0 b1 : Nat) (v : Value) (L : List En) (w : World) (hv : IsR 3 enC w v L) (hl : L.length ≤ 1000000) (h0 : Bx2 w b0 B R) (h1 : w.cell? ⟨b1, 0, none⟩ = some (.int .i64 now)) :
    Calls Try.prog 58 #[v, .func (.func 39) #[] #[.pointer (some ⟨b0, 0, none⟩), .pointer (some ⟨b1, 0, none⟩)]] w fun e w' => ∃ r : Int, e = .returned (.int .i64 r) ∧
      ((r = -1 ∧ ∀ j (hj : j < L.length), fulF B R now L[j] = false) ∨ ∃ k : Nat, r = k ∧ ∃ hk : k < L.length, fulF B R now L[k] = true ∧ ∀ j (hj : j < L.length), j < k → fulF B R now L[j] = false) ∧ Below w.heap.size w w' := by
  obtain ⟨p, cap, rfl, -, hp⟩ := hv
  have HP := Lib.hid hp
  have cC : Hid (∀ (e : En) (W : World), Below w.heap.size w W → Calls Try.prog 39 #[.agg #[.int .i64 e.1, .int .i64 e.2.1, .int .i64 e.2.2], .pointer (some ⟨b0, 0, none⟩), .pointer (some ⟨b1, 0, none⟩)] W fun r w' => r = .returned (.bool (fulF B R now e)) ∧ Below W.heap.size W w') := Lib.hid (fun e W hb => cln1_any B R now e.1 e.2.1 e.2.2 b0 b1 W (h0.call hb) ((hb.cell (p := ⟨b1, 0, none⟩) (World.block_lt_of_cell? _ _ h1)).trans h1))
  clear hp
  go_enter Try.func58, Try.ntmps58
  go_wp2
  go_loopw [8] (fun i wr => ∃ k : Nat, i = .int .i64 k ∧ k ≤ L.length ∧ (∀ j (hj : j < L.length), j < k → fulF B R now L[j] = false) ∧ Below w.heap.size w wr) (fun i _ => L.length - (intOf i).toNat)
  case atStart => exact ⟨0, rfl, by omega, fun j hj h => by omega, Below.refl _ _⟩
  case round =>
    obtain ⟨k, rfl, hk, hok, hB⟩ := hrel
    have HK := Lib.hid hok
    clear hok
    by_cases hlt : k < L.length
    · have hlt' : (k : Int) < L.length := by omega
      obtain ⟨b, off, rfl, g⟩ := HP.out k hlt
      obtain ⟨c0, c1, c2⟩ := (en3_of g).far hB
      obtain ⟨x, hx⟩ : ∃ x, L[k] = x := ⟨_, rfl⟩
      rw [hx] at c0 c1 c2
      have HX := Lib.hid hx
      clear g hx
      have hcon := cC.out x wr hB
      obtain ⟨s, T, A⟩ := x
      simp only at c0 c1 c2 hcon
      cases hb : fulF B R now (s, T, A)
      · rw [hb] at hcon
        have HB := Lib.hid hb
        clear hb
        go_wp2_with (go_at_call 39; refine hcon.mono ?_; rintro e w2 ⟨rfl, hb2⟩)
        go_roundw
        case rel => exact ⟨k + 1, by go_num, by omega, fun j hj hjk => by
          by_cases e : j = k
          · subst e; rw [HX.out]; exact HB.out
          · exact HK.out j hj (by omega), hB.trans (hb2.mono hB.size)⟩
        case measure => simp [intOf]; omega
      · rw [hb] at hcon
        have HB := Lib.hid hb
        clear hb
        go_wp2_with (go_at_call 39; refine hcon.mono ?_; rintro e w2 ⟨rfl, hb2⟩)
        go_ret
        exact ⟨_, rfl, .inr ⟨k, rfl, hlt, by rw [HX.out]; exact HB.out, HK.out⟩, hB.trans (hb2.mono hB.size)⟩
    · obtain rfl : k = L.length := by omega
      go_wp2
      go_ret
      exact ⟨_, rfl, .inl ⟨rfl, fun j hj => HK.out j hj hj⟩, hB⟩
end Go.Proofs.Ytpmabkegjdjodaa
