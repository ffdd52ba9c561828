/- Layer 13, the document's: tokens that are taken; how long to wait; how many at most; whether two are one. -/
import Derived.Test.YtpmabkegjdjodaaB13A
namespace Go.Proofs.Ytpmabkegjdjodaa
open Go.RowKit
set_option linter.unusedVariables false
set_option linter.unusedSimpArgs false

/-- block b holds these two numbers, and may be written -/
def Rw2 (w : World) (b : Nat) (x y : Int) : Prop := Bx2 w b x y ∧ (w.frozen? ⟨b, 0, none⟩ = false ∧ w.frozen? ⟨b, 1, none⟩ = false)
theorem Rw2.call {W w1 : World} {b : Nat} {x y : Int} (h : Rw2 W b x y) (hb : Below W.heap.size W w1) : Rw2 w1 b x y :=
  ⟨h.1.call hb, (hb.frozen (p := ⟨b, 0, none⟩) h.1.lt).trans h.2.1, (hb.frozen (p := ⟨b, 1, none⟩) h.1.lt).trans h.2.2⟩
theorem tk_no {B R T A now n : Int} (h : tkB B R T A now n = false) : tkT B R T A now n = T ∧ tkA B R T A now n = A := ⟨if_neg (by rw [h]; decide), if_neg (by rw [h]; decide)⟩
set_option maxRecDepth 100000 in
set_option maxHeartbeats 4000000 in
theorem bdtake_any (B R T A now n : Int) (w : World) :
    Calls Try.prog 35 #[twV B R, twV T A, .int .i64 now, .int .i64 n] w fun e w' => e = .returned (.tuple #[twV (tkT B R T A now n) (tkA B R T A now n), .bool (tkB B R T A now n)]) ∧ Below w.heap.size w w' := by
  have c0 := Lib.hid (fun W => bdfine_any B R T A W)
  have c1 := Lib.hid (fun W => bdlevel_any B R T A now W)
  have c2 : Hid (∀ W, Calls Try.prog 57 #[.int .i64 now, .int .i64 A, .int .i64 1099511627776] W fun e w' => e = .returned (.int .i64 (hldN now A 1099511627776)) ∧ Below W.heap.size W w') := Lib.hid (fun W => (bdheld_any now A 1099511627776 W).mono fun e w' h => ⟨h.1, by rw [h.2]; exact Below.refl _ _⟩)
  have X0 : Hid (∀ t t' t'', Bx2 (((w.alloc (.cells #[.int .i64 B, .int .i64 R] t)).alloc (.cells #[.int .i64 T, .int .i64 A] t')).alloc (.cells #[.int .i64 0, .int .i64 0] t'')) w.heap.size B R ∧ Bx2 (((w.alloc (.cells #[.int .i64 B, .int .i64 R] t)).alloc (.cells #[.int .i64 T, .int .i64 A] t')).alloc (.cells #[.int .i64 0, .int .i64 0] t'')) (w.heap.size + 1) T A ∧ Rw2 (((w.alloc (.cells #[.int .i64 B, .int .i64 R] t)).alloc (.cells #[.int .i64 T, .int .i64 A] t')).alloc (.cells #[.int .i64 0, .int .i64 0] t'')) (w.heap.size + 2) 0 0) := Lib.hid (fun t t' t'' => by simp [Rw2, Bx2, go_sem])
  simp only [twV] at *
  cases hf : finB B R T A with
  | false =>
    have ht : tkB B R T A now n = false := by unfold tkB; rw [hf]; rfl
    obtain ⟨h1, h2⟩ := tk_no ht
    rw [h1, h2, ht]
    rw [hf] at c0
    clear h1 h2 ht hf
    go_enter Try.func35, Try.ntmps35
    go_wp2_with fail
    refine (c0.out _).mono ?_; rintro e w1 ⟨rfl, hb1⟩
    obtain ⟨⟨x0, x1⟩, ⟨y0, y1⟩, ⟨⟨r0, r1⟩, f0, f1⟩⟩ := (X0.out _ _ _).imp (fun h => h.call hb1) (fun h => h.imp (fun h => h.call hb1) (fun h => h.call hb1))
    go_wp2
    refine bodyPost_ret (v := .tuple #[.agg #[.int .i64 T, .int .i64 A], .bool false]) (by simp [results, Try.results35, go_sem, r0, r1]) rfl ⟨rfl, ?_⟩
    (repeat (first | (with_reducible exact Below.refl _ _) | ((with_reducible refine below_alloc ?_ ?_ _); · (first | omega | (simp; done) | (simp; omega))) | ((with_reducible refine below_setCell ?_ ?_ _); · (first | omega | (simp; done) | (simp; omega))) | (with_reducible refine Below.drew ?_) | (with_reducible refine below_drewN ?_ _) | ((with_reducible refine below_call (by assumption) ?_ ?_); · (first | omega | (simp; done) | (simp; omega)))))
  | true =>
  by_cases h0 : 0 ≤ n
  case neg =>
    have ht : tkB B R T A now n = false := by unfold tkB; rw [hf, decide_eq_false (by omega)]; rfl
    obtain ⟨h1, h2⟩ := tk_no ht
    rw [h1, h2, ht]
    rw [hf] at c0
    have h0' : n < 0 := by omega
    clear h1 h2 ht hf h0
    go_enter Try.func35, Try.ntmps35
    go_wp2_with fail
    refine (c0.out _).mono ?_; rintro e w1 ⟨rfl, hb1⟩
    obtain ⟨⟨x0, x1⟩, ⟨y0, y1⟩, ⟨⟨r0, r1⟩, f0, f1⟩⟩ := (X0.out _ _ _).imp (fun h => h.call hb1) (fun h => h.imp (fun h => h.call hb1) (fun h => h.call hb1))
    go_wp2
    refine bodyPost_ret (v := .tuple #[.agg #[.int .i64 T, .int .i64 A], .bool false]) (by simp [results, Try.results35, go_sem, r0, r1]) rfl ⟨rfl, ?_⟩
    (repeat (first | (with_reducible exact Below.refl _ _) | ((with_reducible refine below_alloc ?_ ?_ _); · (first | omega | (simp; done) | (simp; omega))) | ((with_reducible refine below_setCell ?_ ?_ _); · (first | omega | (simp; done) | (simp; omega))) | (with_reducible refine Below.drew ?_) | (with_reducible refine below_drewN ?_ _) | ((with_reducible refine below_call (by assumption) ?_ ?_); · (first | omega | (simp; done) | (simp; omega)))))
  have h0' : ¬ n < 0 := by omega
  by_cases hl : n ≤ lvlN B R T A now
  case neg =>
    have ht : tkB B R T A now n = false := by unfold tkB; rw [hf, decide_eq_false (by omega)]; rfl
    obtain ⟨h1, h2⟩ := tk_no ht
    rw [h1, h2, ht]
    rw [hf] at c0
    have hl' : lvlN B R T A now < n := by omega
    generalize lvlN B R T A now = L at c1 hl'
    clear h1 h2 ht hf h0 hl
    go_enter Try.func35, Try.ntmps35
    go_wp2_with fail
    refine (c0.out _).mono ?_; rintro e w1 ⟨rfl, hb1⟩
    have B1 : Below w.heap.size w w1 := by (repeat (first | (with_reducible exact Below.refl _ _) | ((with_reducible refine below_alloc ?_ ?_ _); · (first | omega | (simp; done) | (simp; omega))) | ((with_reducible refine below_setCell ?_ ?_ _); · (first | omega | (simp; done) | (simp; omega))) | (with_reducible refine Below.drew ?_) | (with_reducible refine below_drewN ?_ _) | ((with_reducible refine below_call (by assumption) ?_ ?_); · (first | omega | (simp; done) | (simp; omega)))))
    have X1 := Lib.hid ((X0.out _ _ _).imp (fun h => h.call hb1) (fun h => h.imp (fun h => h.call hb1) (fun h => h.call hb1)))
    obtain ⟨⟨x0, x1⟩, ⟨y0, y1⟩, _⟩ := id X1.out
    go_wp2_with fail
    refine (c1.out _).mono ?_; rintro e w2 ⟨rfl, hb2⟩
    have B2 := below_call hb2 B1.size B1
    have z2 := B2.size
    clear x0 x1 y0 y1
    obtain ⟨⟨x0, x1⟩, ⟨y0, y1⟩, ⟨⟨r0, r1⟩, f0, f1⟩⟩ := X1.out.imp (fun h => h.call hb2) (fun h => h.imp (fun h => h.call hb2) (fun h => h.call hb2))
    go_wp2
    refine bodyPost_ret (v := .tuple #[.agg #[.int .i64 T, .int .i64 A], .bool false]) (by simp [results, Try.results35, go_sem, r0, r1]) rfl ⟨rfl, ?_⟩
    (repeat (first | (with_reducible exact Below.refl _ _) | ((with_reducible refine below_alloc ?_ ?_ _); · (first | omega | (simp; done) | (simp; omega))) | ((with_reducible refine below_setCell ?_ ?_ _); · (first | omega | (simp; done) | (simp; omega))) | (with_reducible refine Below.drew ?_) | (with_reducible refine below_drewN ?_ _) | ((with_reducible refine below_call (by assumption) ?_ ?_); · (first | omega | (simp; done) | (simp; omega)))))
  have ht : tkB B R T A now n = true := by unfold tkB; rw [hf, decide_eq_true ⟨h0, hl⟩]; rfl
  have hT' : tkT B R T A now n = lvlN B R T A now - n := if_pos ht
  have hA' : tkA B R T A now n = hldN now A 1099511627776 := if_pos ht
  have hlb := lvl_bd hf now
  have hB1000 := (fin_iff.1 hf).1.1.2
  have hw : IntKind.i64.wrap (lvlN B R T A now - n) = lvlN B R T A now - n := IntWalk.i64_in _ (by omega)
  have hl' : ¬ lvlN B R T A now < n := by omega
  rw [hT', hA', ht]
  rw [hf] at c0
  generalize lvlN B R T A now = L at c1 hl' hw ⊢
  generalize hldN now A 1099511627776 = H at c2 ⊢
  clear hT' hA' ht hf h0 hl hlb hB1000
  go_enter Try.func35, Try.ntmps35
  go_wp2_with fail
  refine (c0.out _).mono ?_; rintro e w1 ⟨rfl, hb1⟩
  have B1 : Below w.heap.size w w1 := by (repeat (first | (with_reducible exact Below.refl _ _) | ((with_reducible refine below_alloc ?_ ?_ _); · (first | omega | (simp; done) | (simp; omega))) | ((with_reducible refine below_setCell ?_ ?_ _); · (first | omega | (simp; done) | (simp; omega))) | (with_reducible refine Below.drew ?_) | (with_reducible refine below_drewN ?_ _) | ((with_reducible refine below_call (by assumption) ?_ ?_); · (first | omega | (simp; done) | (simp; omega)))))
  have X1 := Lib.hid ((X0.out _ _ _).imp (fun h => h.call hb1) (fun h => h.imp (fun h => h.call hb1) (fun h => h.call hb1)))
  obtain ⟨⟨x0, x1⟩, ⟨y0, y1⟩, _⟩ := id X1.out
  go_wp2_with fail
  refine (c1.out _).mono ?_; rintro e w2 ⟨rfl, hb2⟩
  have B2 := below_call hb2 B1.size B1
  have z2 := B2.size
  clear x0 x1 y0 y1
  have X2 := Lib.hid (X1.out.imp (fun h => h.call hb2) (fun h => h.imp (fun h => h.call hb2) (fun h => h.call hb2)))
  have hout : ∀ w', Below w2.heap.size w2 w' → (w'.cell? ⟨w.heap.size, 0, none⟩ = some (.int .i64 B) ∧ w'.cell? ⟨w.heap.size, 1, none⟩ = some (.int .i64 R)) ∧ (w'.cell? ⟨w.heap.size + 1, 0, none⟩ = some (.int .i64 T) ∧ w'.cell? ⟨w.heap.size + 1, 1, none⟩ = some (.int .i64 A)) := fun w' hb => ⟨X2.out.1.call hb, X2.out.2.1.call hb⟩
  have hres : ∀ w', Below w2.heap.size w2 w' → Rw2 w' (w.heap.size + 2) 0 0 := fun w' hb => X2.out.2.2.call hb
  have hT : Below w2.heap.size w2 w2.drew := Below.drew (Below.refl _ _)
  go_wp2
  refine wp_region_held_drew (S := fun w' => (w'.cell? ⟨w.heap.size, 0, none⟩ = some (.int .i64 B) ∧ w'.cell? ⟨w.heap.size, 1, none⟩ = some (.int .i64 R)) ∧ (w'.cell? ⟨w.heap.size + 1, 0, none⟩ = some (.int .i64 T) ∧ w'.cell? ⟨w.heap.size + 1, 1, none⟩ = some (.int .i64 A))) (by kernel_rfl) (hout _ (by assumption)) (fun hHeld => ?_)
  (refine wpAnyH_take (i := 0) (v := ?_) rfl (by kernel_rfl) (by kernel_rfl) (by kernel_rfl) (fun _ _ _ h => h) (Or.inl ⟨by rfl, ?_⟩) (by assumption) ?_; rotate_left 1; (focus (intro wz hz; (try dsimp only at hz); (try simp only [List.getElem_toArray, List.getElem_cons_succ, List.getElem_cons_zero]); go_simp; (try (rw [if_neg (by (try simp only [ByteArray.size_append]); omega)])); try (with_reducible rfl); done)))
  try simp only [Act.put, List.getElem_toArray, List.getElem_cons_succ, List.getElem_cons_zero, List.setIfInBounds_toArray, List.set_cons_zero, List.set_cons_succ]
  (refine wpAnyH_take (i := 1) (v := ?_) rfl (by kernel_rfl) (by kernel_rfl) (by kernel_rfl) (fun _ _ _ h => h) (Or.inl ⟨by rfl, ?_⟩) (by assumption) ?_; rotate_left 1; (focus (intro wz hz; (try dsimp only at hz); (try simp only [List.getElem_toArray, List.getElem_cons_succ, List.getElem_cons_zero]); go_simp; (try (rw [if_neg (by (try simp only [ByteArray.size_append]); omega)])); try (with_reducible rfl); done)))
  try simp only [Act.put, List.getElem_toArray, List.getElem_cons_succ, List.getElem_cons_zero, List.setIfInBounds_toArray, List.set_cons_zero, List.set_cons_succ]
  (refine wpAnyH_take (i := 2) (v := ?_) rfl (by kernel_rfl) (by kernel_rfl) (by kernel_rfl) (fun _ _ _ h => h) (Or.inl ⟨by rfl, ?_⟩) (by assumption) ?_; rotate_left 1; (focus (intro wz hz; (try dsimp only at hz); (try simp only [List.getElem_toArray, List.getElem_cons_succ, List.getElem_cons_zero]); go_simp; (try (rw [if_neg (by (try simp only [ByteArray.size_append]); omega)])); try (with_reducible rfl); done)))
  try simp only [Act.put, List.getElem_toArray, List.getElem_cons_succ, List.getElem_cons_zero, List.setIfInBounds_toArray, List.set_cons_zero, List.set_cons_succ]
  (refine wpAnyH_take (i := 4) (v := ?_) rfl (by kernel_rfl) (by kernel_rfl) (by kernel_rfl) (fun _ _ _ h => h) (Or.inl ⟨by rfl, ?_⟩) (by assumption) ?_; rotate_left 1; (focus (intro wz hz; (try dsimp only at hz); (try simp only [List.getElem_toArray, List.getElem_cons_succ, List.getElem_cons_zero]); go_simp; (try (rw [if_neg (by (try simp only [ByteArray.size_append]); omega)])); try (with_reducible rfl); done)))
  try simp only [Act.put, List.getElem_toArray, List.getElem_cons_succ, List.getElem_cons_zero, List.setIfInBounds_toArray, List.set_cons_zero, List.set_cons_succ]
  (refine wpAnyH_take (i := 6) (v := ?_) rfl (by kernel_rfl) (by kernel_rfl) (by kernel_rfl) (fun _ _ _ h => h) (Or.inl ⟨by rfl, ?_⟩) (by assumption) ?_; rotate_left 1; (focus (intro wz hz; (try dsimp only at hz); (try simp only [List.getElem_toArray, List.getElem_cons_succ, List.getElem_cons_zero]); go_simp; (try (rw [if_neg (by (try simp only [ByteArray.size_append]); omega)])); try (with_reducible rfl); done)))
  try simp only [Act.put, List.getElem_toArray, List.getElem_cons_succ, List.getElem_cons_zero, List.setIfInBounds_toArray, List.set_cons_zero, List.set_cons_succ]
  (refine wpAnyH_take (i := 7) (v := ?_) rfl (by kernel_rfl) (by kernel_rfl) (by kernel_rfl) (fun _ _ _ h => h) (Or.inl ⟨by rfl, ?_⟩) (by assumption) ?_; rotate_left 1; (focus (intro wz hz; (try dsimp only at hz); (try simp only [List.getElem_toArray, List.getElem_cons_succ, List.getElem_cons_zero]); go_simp; (try (rw [if_neg (by (try simp only [ByteArray.size_append]); omega)])); try (with_reducible rfl); done)))
  try simp only [Act.put, List.getElem_toArray, List.getElem_cons_succ, List.getElem_cons_zero, List.setIfInBounds_toArray, List.set_cons_zero, List.set_cons_succ]
  (refine wpAnyH_take (i := 8) (v := ?_) rfl (by kernel_rfl) (by kernel_rfl) (by kernel_rfl) (fun _ _ _ h => h) (Or.inl ⟨by rfl, ?_⟩) (by assumption) ?_; rotate_left 1; (focus (intro wz hz; (try dsimp only at hz); (try simp only [List.getElem_toArray, List.getElem_cons_succ, List.getElem_cons_zero]); go_simp; (try (rw [if_neg (by (try simp only [ByteArray.size_append]); omega)])); try (with_reducible rfl); done)))
  try simp only [Act.put, List.getElem_toArray, List.getElem_cons_succ, List.getElem_cons_zero, List.setIfInBounds_toArray, List.set_cons_zero, List.set_cons_succ]
  (refine wpAnyH_ready (rs := [3]) (by kernel_rfl) (by simp) ?_; refine AllReadyH.cons rfl (fun K hK => ?_) AllReadyH.nil; (try simp only [List.getElem_toArray, List.getElem_cons_succ, List.getElem_cons_zero]); go_simp; go_at_call 36; refine (c1.out _).mono ?_; rintro e wn3 ⟨rfl, hbn3⟩; have hT3 : Below w2.heap.size w2 wn3 := (by first | exact hT.trans (hbn3.mono (Nat.le_refl _)) | exact hT3.trans (hbn3.mono hT3.size)); (try (go_wp2_with fail)); refine hK.out _ _ (hout _ (by assumption)) (fun hHeld => ?_); clear hK K)
  try simp only [Act.put, List.getElem_toArray, List.getElem_cons_succ, List.getElem_cons_zero, List.setIfInBounds_toArray, List.set_cons_zero, List.set_cons_succ]
  (refine wpAnyH_take (i := 5) (v := ?_) rfl (by kernel_rfl) (by kernel_rfl) (by kernel_rfl) (fun _ _ _ h => h) (Or.inl ⟨by rfl, ?_⟩) (by assumption) ?_; rotate_left 1; (focus (intro wz hz; (try dsimp only at hz); (try simp only [List.getElem_toArray, List.getElem_cons_succ, List.getElem_cons_zero]); go_simp; (try (rw [if_neg (by (try simp only [ByteArray.size_append]); omega)])); try (with_reducible rfl); done)))
  try simp only [Act.put, List.getElem_toArray, List.getElem_cons_succ, List.getElem_cons_zero, List.setIfInBounds_toArray, List.set_cons_zero, List.set_cons_succ]
  (refine wpAnyH_ready (rs := [9]) (by kernel_rfl) (by simp) ?_; refine AllReadyH.cons rfl (fun K hK => ?_) AllReadyH.nil; (try simp only [List.getElem_toArray, List.getElem_cons_succ, List.getElem_cons_zero]); go_simp; go_at_call 57; refine (c2.out _).mono ?_; rintro e wn9 ⟨rfl, hbn9⟩; have hT9 : Below w2.heap.size w2 wn9 := (by first | exact hT.trans (hbn9.mono (Nat.le_refl _)) | exact hT3.trans (hbn9.mono hT3.size)); (try (go_wp2_with fail)); refine hK.out _ _ (hout _ (by assumption)) (fun hHeld => ?_); clear hK K)
  try simp only [Act.put, List.getElem_toArray, List.getElem_cons_succ, List.getElem_cons_zero, List.setIfInBounds_toArray, List.set_cons_zero, List.set_cons_succ]
  (refine wpAnyH_take (i := 10) (v := ?_) rfl (by kernel_rfl) (by kernel_rfl) (by kernel_rfl) (fun _ _ _ h => h) (Or.inl ⟨by rfl, ?_⟩) (by assumption) ?_; rotate_left 1; (focus (intro wz hz; (try dsimp only at hz); (try simp only [List.getElem_toArray, List.getElem_cons_succ, List.getElem_cons_zero]); go_simp; (try (rw [if_neg (by (try simp only [ByteArray.size_append]); omega)])); try (with_reducible rfl); done)))
  try simp only [Act.put, List.getElem_toArray, List.getElem_cons_succ, List.getElem_cons_zero, List.setIfInBounds_toArray, List.set_cons_zero, List.set_cons_succ]
  (refine wpAnyH_ready (rs := [11]) (by kernel_rfl) (by simp) ?_; refine AllReadyH.cons rfl (fun K hK => ?_) AllReadyH.nil; (try simp only [List.getElem_toArray, List.getElem_cons_succ, List.getElem_cons_zero]); (obtain ⟨⟨r0, r1⟩, f0, f1⟩ := hres _ hT9); go_simp; refine hK.out _ _ ((by have hq := hout _ hT9; simpa [go_sem] using hq)) (fun hHeld => ?_); clear hK K)
  try simp only [Act.put, List.getElem_toArray, List.getElem_cons_succ, List.getElem_cons_zero, List.setIfInBounds_toArray, List.set_cons_zero, List.set_cons_succ]
  (refine wpAnyH_take (i := 12) (v := ?_) rfl (by kernel_rfl) (by kernel_rfl) (by kernel_rfl) (fun _ _ _ h => h) (Or.inl ⟨by rfl, ?_⟩) (by assumption) ?_; rotate_left 1; (focus (intro wz hz; (try dsimp only at hz); (try simp only [List.getElem_toArray, List.getElem_cons_succ, List.getElem_cons_zero]); go_simp; (try (rw [if_neg (by (try simp only [ByteArray.size_append]); omega)])); try (with_reducible rfl); done)))
  try simp only [Act.put, List.getElem_toArray, List.getElem_cons_succ, List.getElem_cons_zero, List.setIfInBounds_toArray, List.set_cons_zero, List.set_cons_succ]
  refine wpAnyH_done (by kernel_rfl) ?_ _
  have hx := hres _ hT9
  obtain ⟨⟨r0, r1⟩, f0, f1⟩ := hx
  go_wp2
  refine bodyPost_ret (v := .tuple #[.agg #[.int .i64 (L - n), .int .i64 H], .bool true]) (by simp [results, Try.results35, go_sem, r0, r1]) rfl ⟨rfl, ?_⟩
  have B9 := below_call hT9 B2.size B2
  have z9 := B9.size
  (repeat (first | (with_reducible exact Below.refl _ _) | ((with_reducible refine below_alloc ?_ ?_ _); · (first | omega | (simp; done) | (simp; omega))) | ((with_reducible refine below_setCell ?_ ?_ _); · (first | omega | (simp; done) | (simp; omega))) | (with_reducible refine Below.drew ?_) | (with_reducible refine below_drewN ?_ _) | ((with_reducible refine below_call (by assumption) ?_ ?_); · (first | omega | (simp; done) | (simp; omega)))))
end Go.Proofs.Ytpmabkegjdjodaa
