/- ChainKeeps: whatever is put, taken, turned and joined, lists may be all along, are the same from the front and from behind, and each place is in one of them at most, as a plain copy of them says: the statement holds for every input. No condition. -/
import Derived.Test.YtkcenadenmkgnaaLawKit
import Derived.Test.YtkcenadenmkgnaaLawOpenA
import Derived.Test.YtkcenadenmkgnaaC9K
import Derived.Deep.RegionWith
import Derived.Deep.DeepCutAuto
import Derived.Deep.CutBlock
namespace Go.Proofs.Ytkcenadenmkgnaa
open Go.RowKit Go.ChangeShapes Go.WideShapes Go.ChangeAt
set_option linter.unusedVariables false
set_option linter.unusedSimpArgs false

theorem mod_nat (x : Int) (h : 0 ≤ x) (n : Nat) (hn : 0 < n) : ∃ y : Nat, Int.tmod x n = y ∧ y < n := by
  rw [Int.tmod_eq_emod_of_nonneg h]
  have h1 := Int.emod_nonneg x (show (n : Int) ≠ 0 by omega)
  have h2 := Int.emod_lt_of_pos x (show (0 : Int) < n by omega)
  exact ⟨(x % n).toNat, by omega, by omega⟩
theorem succ_val (u : Nat) : Value.int .i64 ((u : Int) + 1) = .int .i64 ((u + 1 : Nat) : Int) := rfl
theorem meas1 (n t : Nat) (h : t < n) : n - (intOf (Value.int .i64 ((t : Int) + 1))).toNat < n - (intOf (Value.int .i64 (t : Int))).toNat := by simp [intOf]; omega
theorem wraps (n : Nat) (h : n < 100) : IntKind.i64.wrap (n : Int) = n ∧ wrap64 (n : Int) = n ∧ IntKind.i64.wrap ((n : Int) + 1) = (n : Int) + 1 ∧ wrap64 ((n : Int) + 1) = (n : Int) + 1 :=
  ⟨IntWalk.i64_in _ (by omega), IntWalk.wrap64_in _ ⟨by omega, by omega⟩, IntWalk.i64_in _ (by omega), IntWalk.wrap64_in _ ⟨by omega, by omega⟩⟩
theorem row_at {w : World} {ao : Option Addr} {cp : Nat} {X : List Int} (h : IsI w (.slice ao X.length cp) X) (u : Nat) (hu : u < X.length) : ∃ b o, ao = some ⟨b, o, none⟩ ∧ w.cell? ⟨b, o + u, none⟩ = some (.int .i64 X[u]) := by
  obtain ⟨p, c, hv, hr⟩ := h
  cases hv
  exact hr u hu
theorem back_at {w : World} {bo : Option Addr} {cp : Nat} {X Y : List Int} (hY : X.reverse = Y) (h : IsI w (.slice bo X.length cp) Y) (u : Nat) (hu : u < X.length) : ∃ b o, bo = some ⟨b, o, none⟩ ∧ w.cell? ⟨b, o + (X.length - 1 - u), none⟩ = some (.int .i64 X[u]) := by
  subst hY
  obtain ⟨p, c, hv, hr⟩ := h
  injection hv with e1 e2 e3
  subst e1
  obtain ⟨b, o, e, hc⟩ := hr (X.length - 1 - u) (by rw [List.length_reverse]; omega)
  refine ⟨b, o, e, ?_⟩
  rw [hc, List.getElem_reverse]
  have : X.length - 1 - (X.length - 1 - u) = u := by omega
  simp only [this]
theorem idx_in (n u : Nat) (hu : u < n) (hn : n ≤ 20) : IntKind.i64.wrap ((n : Int) - 1) = (n : Int) - 1 ∧ wrap64 ((n : Int) - 1) = (n : Int) - 1 ∧ IntKind.i64.wrap ((n : Int) - 1 - u) = ((n - 1 - u : Nat) : Int) ∧ (n : Int) - 1 - u = ((n - 1 - u : Nat) : Int) ∧ ((n - 1 - u : Nat) : Int) < n ∧ IntKind.i64.wrap ((n - 1 - u : Nat) : Int) = ((n - 1 - u : Nat) : Int) :=
  ⟨IntWalk.i64_in _ (by omega), IntWalk.wrap64_in _ ⟨by omega, by omega⟩, by rw [IntWalk.i64_in _ (by omega)]; omega, by omega, by omega, IntWalk.i64_in _ (by omega)⟩
theorem made_n (n : Nat) : madeCells (Value.int .i64 0).cells (n * 1) = ((List.replicate n (0 : Int)).map (Value.int .i64)).toArray := by
  refine Array.ext (by simp [madeCells, Value.cells]) fun i h1 h2 => ?_
  have e : i % 1 = 0 := Nat.mod_one i
  simp [madeCells, Value.cells, e]
theorem gen_exit {K : Act → World → Prop} {Q : Exit → Act → World → Prop} {a : Act} {W : World} (F : World → Prop) (hF : F W) (h : ∀ wt, F wt → Exit.then K Q .normal a wt) : Exit.then K Q .normal a W := h W hF
set_option maxRecDepth 100000 in
set_option maxHeartbeats 4000000 in
theorem ckeeps_walk (vl : Value) (l : List Deed) (w : World) (hv : IsA w vl l) (hll : l.length ≤ maxLen) (hlb : ∀ x ∈ l, (0 ≤ x.1 ∧ x.1 ≤ 255) ∧ (0 ≤ x.2.1 ∧ x.2.1 ≤ 255) ∧ (0 ≤ x.2.2 ∧ x.2.2 ≤ 255)) :
    Calls Try.prog 5 #[vl] w fun e w' => e = .returned (.bool true) ∧ Below w.heap.size w w' := by
  unfold maxLen at hll
  obtain ⟨pl, cl, rfl, hp⟩ := hv
  have HP := Lib.hid hp
  clear hp
  by_cases hbig : (100 : Int) < l.length
  · go_enter Try.func5, Try.ntmps5
    go_wp2_with fail
    refine (awake_any _).mono ?_; rintro e w1 ⟨rfl, hb1⟩
    go_wp2_with fail
    go_ret
    exact ⟨rfl, hb1⟩
  · have hsm : (l.length : Int) ≤ 100 := by omega
    clear hbig hll
    obtain ⟨n1, n2, n3, n4⟩ := new_rep 20 4 (by omega) (by omega)
    have c1 := fun W => new_any 20 4 W
    rw [show newE 20 4 = 0 from n1, show newR 20 4 = newS 20 4 from n2] at c1
    have n5 : whR (newS 20 4) = List.replicate 20 0 := by decide +kernel
    obtain ⟨S0, hS0⟩ : ∃ s, newS 20 4 = s := ⟨_, rfl⟩
    rw [hS0] at c1 n3 n4 n5
    have HN := Lib.hid (And.intro n3 (And.intro n4 n5))
    have HLB := Lib.hid hlb
    clear n1 n2 n3 n4 n5 hS0 hlb
    obtain ⟨M, hM⟩ : ∃ M : Array Value, M = ((List.replicate 20 (0 : Int)).map (Value.int .i64)).toArray := ⟨_, rfl⟩
    have hmk : ∀ W : World, (Instr.makeSlice 23 (.int .i64 20) (.int .i64 20)).run Try.prog W = .ok (.slice (some ⟨W.heap.size, 0, none⟩) 20 20) (W.alloc (.cells M 3)) := fun W => by
      obtain ⟨i1, gi, gj0, gj1, gj2⟩ := info_parts info_int
      have h := run_make (P := Try.prog) W 23 3 i1 (.int .i64 0) Try.underlying23 gi gj0 .i64 .i64 (20 : Int) (20 : Int) (by omega) (by omega) (by rw [gj2]; decide) (by omega)
      rw [gj1] at h
      have e : M = madeCells (Value.int .i64 0).cells (Int.toNat 20 * 1) := hM.trans (made_n 20).symm
      rw [e]
      exact h
    have HM := Lib.hid hM
    clear hM
    go_enter Try.func5, Try.ntmps5
    go_wp2_with fail
    refine (c1 _).mono ?_; rintro e w1 ⟨na, ha, ta, rfl, hI, hN, hb1⟩
    have hN := hN trivial
    have ho := hN.off_hi (g := w1.heap.size) (Nat.le_refl _)
    have ho2 := hN.off_hi (g := w1.heap.size + 1) (Nat.le_succ _)
    have HI := Lib.hid hI
    have HO := Lib.hid (And.intro ho ho2)
    have hs1 := hb1.size
    obtain ⟨⟨p0, q0, rfl, -⟩, ⟨p1, q1, rfl, -⟩, ⟨p2, q2, rfl, -⟩⟩ := id hI
    have HB1 := Lib.hid hb1
    clear hI hN ho ho2 c1 hb1
    go_wp2_with fail
    have HK : Hid (Keeps w ((w1.alloc (.cells #[.slice p0 S0.1.length q0, .slice p1 S0.2.1.length q1, .slice p2 S0.2.2.length q2] 30)).alloc (.cells M 3)) w.heap.size w1.heap.size (w1.heap.size + 1) (.slice p0 S0.1.length q0) (.slice p1 S0.2.1.length q1) (.slice p2 S0.2.2.length q2) S0 (whR S0)) := Lib.hid (by
      have hx := (Bs.new HI.out 30).call (w1 := (w1.alloc (.cells #[.slice p0 S0.1.length q0, .slice p1 S0.2.1.length q1, .slice p2 S0.2.2.length q2] 30)).alloc (.cells M 3)) ((Below.refl _ _).alloc (Nat.le_refl _) _)
      have hc := Wr.new (w1.alloc (.cells #[.slice p0 S0.1.length q0, .slice p1 S0.2.1.length q1, .slice p2 S0.2.2.length q2] 30)) (List.replicate 20 0) 3
      rw [← HM.out] at hc
      have hb1 := HB1.out
      exact ⟨⟨_, by simp, HN.out.1⟩, HN.out.2.1, by rw [whR_len, HN.out.2.1], hx, HO.out.1, HO.out.2, by rw [HN.out.2.2]; simpa using hc, by (repeat (first | (with_reducible exact Below.refl _ _) | ((with_reducible refine below_alloc ?_ ?_ _); · (first | omega | (simp; done) | (simp; omega))) | ((with_reducible refine below_setCell ?_ ?_ _); · (first | omega | (simp; done) | (simp; omega))) | (with_reducible refine Below.drew ?_) | (with_reducible refine below_drewN ?_ _) | ((with_reducible refine below_call (by assumption) ?_ ?_); · (first | omega | (simp; done) | (simp; omega)))))⟩)
    refine gen_world (F := fun wt => Keeps w wt w.heap.size w1.heap.size (w1.heap.size + 1) (.slice p0 S0.1.length q0) (.slice p1 S0.2.1.length q1) (.slice p2 S0.2.2.length q2) S0 (whR S0)) HK.out (fun wt hF => ?_)
    clear HK
    obtain ⟨bs, hbs⟩ : ∃ b, w1.heap.size = b := ⟨_, rfl⟩
    rw [hbs] at hF hs1 ⊢
    have H0 := Lib.hid hF
    clear hF hmk HM HI HO HB1 HN hbs
    go_loopw [6] (fun ii wr => ∃ (k : Nat) (S : LSt) (vn vh vt : Value), ii = .int .i64 k ∧ k ≤ l.length ∧ Keeps w wr w.heap.size bs (bs + 1) vn vh vt S (whR S)) (fun ii _ => l.length - (intOf ii).toNat)
    case atStart => exact ⟨0, S0, _, _, _, rfl, Nat.zero_le _, H0.out⟩
    case round =>
      obtain ⟨k, S, vn, vh, vt, rfl, hkl, hK⟩ := hrel
      have hkl' : (k : Int) ≤ l.length := by omega
      have hxb := hK.x.lt
      have hxc := hK.c.2.2
      have HKK := Lib.hid hK
      by_cases hlt : k < l.length
      · have hlt' : (k : Int) < l.length := by omega
        obtain ⟨bl, ol, rfl, d0, d1, d2⟩ := HP.out k hlt
        have hbl0 : bl < w.heap.size := World.block_lt_of_cell? _ _ d0
        have hbl : bl < wr.heap.size := Nat.lt_of_lt_of_le hbl0 hK.b.size
        obtain ⟨⟨hx0, hx1⟩, ⟨hy0, hy1⟩, ⟨hz0, hz1⟩⟩ := HLB.out l[k] (List.getElem_mem _)
        obtain ⟨⟨x, y, z⟩, hxyz⟩ : ∃ x, l[k] = x := ⟨_, rfl⟩
        rw [hxyz] at d0 d1 d2 hx0 hx1 hy0 hy1 hz0 hz1
        replace d0 : w.cell? ⟨bl, ol + k * 3, none⟩ = some (.int .u8 x) := d0
        replace d1 : w.cell? ⟨bl, ol + k * 3 + 1, none⟩ = some (.int .u8 y) := d1
        replace d2 : w.cell? ⟨bl, ol + k * 3 + 2, none⟩ = some (.int .u8 z) := d2
        replace hx0 : 0 ≤ x := hx0
        replace hy0 : 0 ≤ y := hy0
        replace hz0 : 0 ≤ z := hz0
        obtain ⟨kd, hkd, hkd5⟩ := mod_nat x hx0 5 (by omega)
        obtain ⟨li, hli, hli4⟩ := mod_nat y hy0 4 (by omega)
        obtain ⟨at', hat, hat20⟩ := mod_nat z hz0 20 (by omega)
        obtain ⟨q, hq0, hq4, hq⟩ : ∃ q : Int, 0 ≤ q ∧ q ≤ 4 ∧ Int.tmod x 5 = q := ⟨kd, by omega, by omega, hkd⟩
        clear hkd hkd5
        replace hli : Int.tmod y 4 = li := hli
        replace hat : Int.tmod z 20 = at' := hat
        obtain ⟨hliw, hliw2, -, -⟩ := wraps li (Nat.lt_trans hli4 (by decide))
        obtain ⟨hatw, hatw2, -, -⟩ := wraps at' (Nat.lt_trans hat20 (by decide))
        have hout := Lib.hid (fun w' (h : Below w.heap.size w w') => (show w'.cell? ⟨bl, ol + k * 3, none⟩ = some (.int .u8 x) ∧ w'.cell? ⟨bl, ol + k * 3 + 1, none⟩ = some (.int .u8 y) ∧ w'.cell? ⟨bl, ol + k * 3 + 2, none⟩ = some (.int .u8 z) from ⟨(h.cell (p := ⟨bl, ol + k * 3, none⟩) hbl0).trans d0, (h.cell (p := ⟨bl, ol + k * 3 + 1, none⟩) hbl0).trans d1, (h.cell (p := ⟨bl, ol + k * 3 + 2, none⟩) hbl0).trans d2⟩))
        have hBr := hK.b
        clear hxyz d0 d1 d2 hK
        go_wp2_with fail
        refine wp_region_held_drew (S := fun w' => w'.cell? ⟨bl, ol + k * 3, none⟩ = some (.int .u8 x) ∧ w'.cell? ⟨bl, ol + k * 3 + 1, none⟩ = some (.int .u8 y) ∧ w'.cell? ⟨bl, ol + k * 3 + 2, none⟩ = some (.int .u8 z)) (by kernel_rfl) (hout.out _ (Below.drew hBr)) (fun hHeld => ?_)
        (refine wpAnyH_take (i := 0) (v := ?_) rfl (by kernel_rfl) (by kernel_rfl) (by kernel_rfl) (fun _ _ _ h => h) (Or.inl ⟨by rfl, ?_⟩) (by assumption) ?_; rotate_left 1; (focus (intro wz hz; (try dsimp only at hz); (try simp only [List.getElem_toArray, List.getElem_cons_succ, List.getElem_cons_zero]); go_simp; try (with_reducible rfl); done)))
        try simp only [Act.put, List.getElem_toArray, List.getElem_cons_succ, List.getElem_cons_zero, List.setIfInBounds_toArray, List.set_cons_zero, List.set_cons_succ]
        (refine wpAnyH_take (i := 1) (v := ?_) rfl (by kernel_rfl) (by kernel_rfl) (by kernel_rfl) (fun _ _ _ h => h) (Or.inl ⟨by rfl, ?_⟩) (by assumption) ?_; rotate_left 1; (focus (intro wz hz; (try dsimp only at hz); (try simp only [List.getElem_toArray, List.getElem_cons_succ, List.getElem_cons_zero]); go_simp; try (with_reducible rfl); done)))
        try simp only [Act.put, List.getElem_toArray, List.getElem_cons_succ, List.getElem_cons_zero, List.setIfInBounds_toArray, List.set_cons_zero, List.set_cons_succ]
        (refine wpAnyH_take (i := 2) (v := ?_) rfl (by kernel_rfl) (by kernel_rfl) (by kernel_rfl) (fun _ _ _ h => h) (Or.inl ⟨by rfl, ?_⟩) (by assumption) ?_; rotate_left 1; (focus (intro wz hz; (try dsimp only at hz); (try simp only [List.getElem_toArray, List.getElem_cons_succ, List.getElem_cons_zero]); go_simp; try (with_reducible rfl); done)))
        try simp only [Act.put, List.getElem_toArray, List.getElem_cons_succ, List.getElem_cons_zero, List.setIfInBounds_toArray, List.set_cons_zero, List.set_cons_succ]
        (refine wpAnyH_take (i := 3) (v := ?_) rfl (by kernel_rfl) (by kernel_rfl) (by kernel_rfl) (fun _ _ _ h => h) (Or.inl ⟨by rfl, ?_⟩) (by assumption) ?_; rotate_left 1; (focus (intro wz hz; (try dsimp only at hz); (try simp only [List.getElem_toArray, List.getElem_cons_succ, List.getElem_cons_zero]); go_simp; try (with_reducible rfl); done)))
        try simp only [Act.put, List.getElem_toArray, List.getElem_cons_succ, List.getElem_cons_zero, List.setIfInBounds_toArray, List.set_cons_zero, List.set_cons_succ]
        (refine wpAnyH_take (i := 4) (v := ?_) rfl (by kernel_rfl) (by kernel_rfl) (by kernel_rfl) (fun _ _ _ h => h) (Or.inl ⟨by rfl, ?_⟩) (by assumption) ?_; rotate_left 1; (focus (intro wz hz; (try dsimp only at hz); (try simp only [List.getElem_toArray, List.getElem_cons_succ, List.getElem_cons_zero]); go_simp; try (with_reducible rfl); done)))
        try simp only [Act.put, List.getElem_toArray, List.getElem_cons_succ, List.getElem_cons_zero, List.setIfInBounds_toArray, List.set_cons_zero, List.set_cons_succ]
        (refine wpAnyH_take (i := 5) (v := ?_) rfl (by kernel_rfl) (by kernel_rfl) (by kernel_rfl) (fun _ _ _ h => h) (Or.inl ⟨by rfl, ?_⟩) (by assumption) ?_; rotate_left 1; (focus (intro wz hz; (try dsimp only at hz); (try simp only [List.getElem_toArray, List.getElem_cons_succ, List.getElem_cons_zero]); go_simp; try (with_reducible rfl); done)))
        try simp only [Act.put, List.getElem_toArray, List.getElem_cons_succ, List.getElem_cons_zero, List.setIfInBounds_toArray, List.set_cons_zero, List.set_cons_succ]
        (refine wpAnyH_take (i := 6) (v := ?_) rfl (by kernel_rfl) (by kernel_rfl) (by kernel_rfl) (fun _ _ _ h => h) (Or.inl ⟨by rfl, ?_⟩) (by assumption) ?_; rotate_left 1; (focus (intro wz hz; (try dsimp only at hz); (try simp only [List.getElem_toArray, List.getElem_cons_succ, List.getElem_cons_zero]); go_simp; try (with_reducible rfl); done)))
        try simp only [Act.put, List.getElem_toArray, List.getElem_cons_succ, List.getElem_cons_zero, List.setIfInBounds_toArray, List.set_cons_zero, List.set_cons_succ]
        (refine wpAnyH_take (i := 7) (v := ?_) rfl (by kernel_rfl) (by kernel_rfl) (by kernel_rfl) (fun _ _ _ h => h) (Or.inl ⟨by rfl, ?_⟩) (by assumption) ?_; rotate_left 1; (focus (intro wz hz; (try dsimp only at hz); (try simp only [List.getElem_toArray, List.getElem_cons_succ, List.getElem_cons_zero]); go_simp; try (with_reducible rfl); done)))
        try simp only [Act.put, List.getElem_toArray, List.getElem_cons_succ, List.getElem_cons_zero, List.setIfInBounds_toArray, List.set_cons_zero, List.set_cons_succ]
        (refine wpAnyH_take (i := 8) (v := ?_) rfl (by kernel_rfl) (by kernel_rfl) (by kernel_rfl) (fun _ _ _ h => h) (Or.inl ⟨by rfl, ?_⟩) (by assumption) ?_; rotate_left 1; (focus (intro wz hz; (try dsimp only at hz); (try simp only [List.getElem_toArray, List.getElem_cons_succ, List.getElem_cons_zero]); go_simp; try (with_reducible rfl); done)))
        try simp only [Act.put, List.getElem_toArray, List.getElem_cons_succ, List.getElem_cons_zero, List.setIfInBounds_toArray, List.set_cons_zero, List.set_cons_succ]
        (refine wpAnyH_take (i := 9) (v := ?_) rfl (by kernel_rfl) (by kernel_rfl) (by kernel_rfl) (fun _ _ _ h => h) (Or.inl ⟨by rfl, ?_⟩) (by assumption) ?_; rotate_left 1; (focus (intro wz hz; (try dsimp only at hz); (try simp only [List.getElem_toArray, List.getElem_cons_succ, List.getElem_cons_zero]); go_simp; try (with_reducible rfl); done)))
        try simp only [Act.put, List.getElem_toArray, List.getElem_cons_succ, List.getElem_cons_zero, List.setIfInBounds_toArray, List.set_cons_zero, List.set_cons_succ]
        (refine wpAnyH_take (i := 10) (v := ?_) rfl (by kernel_rfl) (by kernel_rfl) (by kernel_rfl) (fun _ _ _ h => h) (Or.inl ⟨by rfl, ?_⟩) (by assumption) ?_; rotate_left 1; (focus (intro wz hz; (try dsimp only at hz); (try simp only [List.getElem_toArray, List.getElem_cons_succ, List.getElem_cons_zero]); go_simp; try (with_reducible rfl); done)))
        try simp only [Act.put, List.getElem_toArray, List.getElem_cons_succ, List.getElem_cons_zero, List.setIfInBounds_toArray, List.set_cons_zero, List.set_cons_succ]
        (refine wpAnyH_take (i := 11) (v := ?_) rfl (by kernel_rfl) (by kernel_rfl) (by kernel_rfl) (fun _ _ _ h => h) (Or.inl ⟨by rfl, ?_⟩) (by assumption) ?_; rotate_left 1; (focus (intro wz hz; (try dsimp only at hz); (try simp only [List.getElem_toArray, List.getElem_cons_succ, List.getElem_cons_zero]); go_simp; try (with_reducible rfl); done)))
        try simp only [Act.put, List.getElem_toArray, List.getElem_cons_succ, List.getElem_cons_zero, List.setIfInBounds_toArray, List.set_cons_zero, List.set_cons_succ]
        (refine wpAnyH_take (i := 12) (v := ?_) rfl (by kernel_rfl) (by kernel_rfl) (by kernel_rfl) (fun _ _ _ h => h) (Or.inl ⟨by rfl, ?_⟩) (by assumption) ?_; rotate_left 1; (focus (intro wz hz; (try dsimp only at hz); (try simp only [List.getElem_toArray, List.getElem_cons_succ, List.getElem_cons_zero]); go_simp; try (with_reducible rfl); done)))
        try simp only [Act.put, List.getElem_toArray, List.getElem_cons_succ, List.getElem_cons_zero, List.setIfInBounds_toArray, List.set_cons_zero, List.set_cons_succ]
        (refine wpAnyH_take (i := 13) (v := ?_) rfl (by kernel_rfl) (by kernel_rfl) (by kernel_rfl) (fun _ _ _ h => h) (Or.inl ⟨by rfl, ?_⟩) (by assumption) ?_; rotate_left 1; (focus (intro wz hz; (try dsimp only at hz); (try simp only [List.getElem_toArray, List.getElem_cons_succ, List.getElem_cons_zero]); go_simp; try (with_reducible rfl); done)))
        try simp only [Act.put, List.getElem_toArray, List.getElem_cons_succ, List.getElem_cons_zero, List.setIfInBounds_toArray, List.set_cons_zero, List.set_cons_succ]
        (refine wpAnyH_take (i := 14) (v := ?_) rfl (by kernel_rfl) (by kernel_rfl) (by kernel_rfl) (fun _ _ _ h => h) (Or.inl ⟨by rfl, ?_⟩) (by assumption) ?_; rotate_left 1; (focus (intro wz hz; (try dsimp only at hz); (try simp only [List.getElem_toArray, List.getElem_cons_succ, List.getElem_cons_zero]); go_simp; try (with_reducible rfl); done)))
        try simp only [Act.put, List.getElem_toArray, List.getElem_cons_succ, List.getElem_cons_zero, List.setIfInBounds_toArray, List.set_cons_zero, List.set_cons_succ]
        (refine wpAnyH_take (i := 15) (v := ?_) rfl (by kernel_rfl) (by kernel_rfl) (by kernel_rfl) (fun _ _ _ h => h) (Or.inl ⟨by rfl, ?_⟩) (by assumption) ?_; rotate_left 1; (focus (intro wz hz; (try dsimp only at hz); (try simp only [List.getElem_toArray, List.getElem_cons_succ, List.getElem_cons_zero]); go_simp; try (with_reducible rfl); done)))
        try simp only [Act.put, List.getElem_toArray, List.getElem_cons_succ, List.getElem_cons_zero, List.setIfInBounds_toArray, List.set_cons_zero, List.set_cons_succ]
        refine wpAnyH_done (by kernel_rfl) ?_ _
        clear hHeld
        refine gen_exit (fun wt => Keeps w wt w.heap.size bs (bs + 1) vn vh vt S (whR S)) (HKK.out.call (by omega) ((Below.refl _ _).drew)) (fun wt hK => ?_)
        obtain ⟨c0, c1, c2⟩ := hout.out _ hK.b
        have HKT := Lib.hid hK
        have hzt : bs + 1 < wt.heap.size := hK.c.2.2
        clear hK HKK hxb hxc hbl hBr
        go_upto_block 2 with fail
        go_cut [] (fun wx => ∃ (S' : LSt) (xn xh xt : Value), Keeps w wx w.heap.size bs (bs + 1) xn xh xt S' (whR S'))
        case first =>
          clear hout c0 c1 c2 hq hliw hliw2 hatw hatw2
          obtain ⟨⟨pn, qn, rfl, -⟩, ⟨ph, qh, rfl, -⟩, ⟨pt, qt, rfl, -⟩⟩ := id HKT.out.x.s
          have hbox := Lib.hid (fun W (h : Below wt.heap.size wt W) => HKT.out.call (by omega) h)
          obtain ⟨⟨e0, e1, e2⟩, ez, -⟩ := id HKT.out.x
          obtain ⟨ln1, ln2, ln3⟩ := HKT.out.len
          have LN := Lib.hid (And.intro ln1 (And.intro ln2 ln3))
          clear ln1 ln2 ln3 ez
          have hli0 : (0 : Int) ≤ li := by omega
          have hat0 : (0 : Int) ≤ at' := by omega
          have hat2 : (at' : Int) < 20 := by omega
          have hra : at' < (whR S).length := by rw [HKT.out.m]; exact hat20
          have HRA := Lib.hid (show ∀ W, Keeps w W w.heap.size bs (bs + 1) (.slice pn S.1.length qn) (.slice ph S.2.1.length qh) (.slice pt S.2.2.length qt) S (whR S) → W.cell? ⟨bs + 1, at', none⟩ = some (.int .i64 (wh S at')) from fun W h => by rw [h.c.1 at' hra, whR_at])
          clear hra
          rcases (show q = 0 ∨ q = 1 ∨ q = 2 ∨ q = 3 ∨ q = 4 by omega) with rfl | rfl | rfl | rfl | rfl
          · as_aux_lemma =>
            have cp := Lib.hid (fun W' (hv : IsLS W' (.slice pn S.1.length qn) (.slice ph S.2.1.length qh) (.slice pt S.2.2.length qt) S) => push_any _ _ _ S li at' W' hv (Nat.le_trans LN.out.1 (by decide)) LN.out.2.1 LN.out.2.2)
            obtain ⟨HP1, HP2⟩ := HKT.out.push hli4 hat20
            have HPU := Lib.hid (And.intro HP1 HP2)
            clear HP1 HP2
            obtain ⟨S', hS'⟩ : ∃ s, pushS S li at' = s := ⟨_, rfl⟩
            obtain ⟨E, hE⟩ : ∃ e, pushE S li at' = e := ⟨_, rfl⟩
            have cp' := cp.out
            have hpu := HPU.out
            rw [hS', hE] at cp' hpu
            have CP := Lib.hid cp'
            clear cp' cp HPU hS' hE
            by_cases hw0 : wh S at' = 0
            · obtain ⟨d1, d2, d3, d4⟩ := hpu.1 hw0
              subst d1
              have HD := Lib.hid (And.intro d2 (And.intro d3 d4))
              have HW0 := Lib.hid hw0
              clear hpu d2 d3 d4 hw0
              go_wp2_with fail
              refine (CP.out _ (HKT.out.x.s.call (by (repeat (first | (with_reducible exact Below.refl _ _) | ((with_reducible refine below_alloc ?_ ?_ _); · (first | omega | (simp; done) | (simp; omega))) | ((with_reducible refine below_setCell ?_ ?_ _); · (first | omega | (simp; done) | (simp; omega))) | (with_reducible refine Below.drew ?_) | (with_reducible refine below_drewN ?_ _) | ((with_reducible refine below_call (by assumption) ?_ ?_); · (first | omega | (simp; done) | (simp; omega)))))))).mono ?_; rintro e w2 ⟨un, uh, ut, rfl, ho, hb2⟩
              have hbw : Below wt.heap.size wt w2 := (by (repeat (first | (with_reducible exact Below.refl _ _) | ((with_reducible refine below_alloc ?_ ?_ _); · (first | omega | (simp; done) | (simp; omega))) | ((with_reducible refine below_setCell ?_ ?_ _); · (first | omega | (simp; done) | (simp; omega))) | (with_reducible refine Below.drew ?_) | (with_reducible refine below_drewN ?_ _) | ((with_reducible refine below_call (by assumption) ?_ ?_); · (first | omega | (simp; done) | (simp; omega))))))
              have hK2 := hbox.out _ hbw
              have hI2 := ho.rd hK2.x.s
              have hO := ho.off (g := bs) HKT.out.o (by omega)
              have hO2 := ho.off (g := bs + 1) HKT.out.p (by omega)
              obtain ⟨⟨p3, q3, rfl, -⟩, ⟨p4, q4, rfl, -⟩, ⟨p5, q5, rfl, -⟩⟩ := id hI2
              have H2 := Lib.hid (And.intro hK2 (And.intro hI2 (And.intro hO hO2)))
              obtain ⟨⟨f0, f1, f2⟩, fz, -⟩ := id hK2.x
              have g0 := HRA.out _ hK2
              rw [HW0.out] at g0
              have gz := hK2.c.2.1
              have z2 := hbw.size
              clear hb2 hbw hK2 hI2 hO hO2 ho e0 e1 e2
              go_wp2_with fail
              go_meet
              obtain ⟨hK2, hI2, hO, hO2⟩ := H2.out
              have h9 := (hK2.box (by omega) (by omega) hI2 hO hO2 HD.out.1 HD.out.2.1).put (m := at') (v := li + 1) (by omega) (by omega) hat20
              rw [← HD.out.2.2] at h9
              exact ⟨S', _, _, _, h9⟩
            · obtain ⟨d1, d2⟩ := hpu.2 hw0
              subst d1
              subst d2
              clear hpu
              go_wp2_with fail
              refine (CP.out _ (HKT.out.x.s.call (by (repeat (first | (with_reducible exact Below.refl _ _) | ((with_reducible refine below_alloc ?_ ?_ _); · (first | omega | (simp; done) | (simp; omega))) | ((with_reducible refine below_setCell ?_ ?_ _); · (first | omega | (simp; done) | (simp; omega))) | (with_reducible refine Below.drew ?_) | (with_reducible refine below_drewN ?_ _) | ((with_reducible refine below_call (by assumption) ?_ ?_); · (first | omega | (simp; done) | (simp; omega)))))))).mono ?_; rintro e w2 ⟨un, uh, ut, rfl, ho, hb2⟩
              have hbw : Below wt.heap.size wt w2 := (by (repeat (first | (with_reducible exact Below.refl _ _) | ((with_reducible refine below_alloc ?_ ?_ _); · (first | omega | (simp; done) | (simp; omega))) | ((with_reducible refine below_setCell ?_ ?_ _); · (first | omega | (simp; done) | (simp; omega))) | (with_reducible refine Below.drew ?_) | (with_reducible refine below_drewN ?_ _) | ((with_reducible refine below_call (by assumption) ?_ ?_); · (first | omega | (simp; done) | (simp; omega))))))
              have hK2 := hbox.out _ hbw
              have hI2 := ho.rd hK2.x.s
              have hO := ho.off (g := bs) HKT.out.o (by omega)
              have hO2 := ho.off (g := bs + 1) HKT.out.p (by omega)
              obtain ⟨⟨p3, q3, rfl, -⟩, ⟨p4, q4, rfl, -⟩, ⟨p5, q5, rfl, -⟩⟩ := id hI2
              have H2 := Lib.hid (And.intro hK2 (And.intro hI2 (And.intro hO hO2)))
              obtain ⟨⟨f0, f1, f2⟩, fz, -⟩ := id hK2.x
              have g0 := HRA.out _ hK2
              have gz := hK2.c.2.1
              have z2 := hbw.size
              clear hb2 hbw hK2 hI2 hO hO2 ho e0 e1 e2
              go_wp2_with fail
              go_meet
              obtain ⟨hK2, hI2, hO, hO2⟩ := H2.out
              exact ⟨_, _, _, _, hK2.box (by omega) (by omega) hI2 hO hO2 hK2.r hK2.n⟩
          · as_aux_lemma =>
            have cp := Lib.hid (fun W' (hv : IsLS W' (.slice pn S.1.length qn) (.slice ph S.2.1.length qh) (.slice pt S.2.2.length qt) S) => push_any _ _ _ S li at' W' hv (Nat.le_trans LN.out.1 (by decide)) LN.out.2.1 LN.out.2.2)
            obtain ⟨HP1, HP2⟩ := HKT.out.push hli4 hat20
            have HPU := Lib.hid (And.intro HP1 HP2)
            clear HP1 HP2
            obtain ⟨S', hS'⟩ : ∃ s, pushS S li at' = s := ⟨_, rfl⟩
            obtain ⟨E, hE⟩ : ∃ e, pushE S li at' = e := ⟨_, rfl⟩
            have cp' := cp.out
            have hpu := HPU.out
            rw [hS', hE] at cp' hpu
            have CP := Lib.hid cp'
            clear cp' cp HPU hS' hE
            by_cases hw0 : wh S at' = 0
            · obtain ⟨d1, d2, d3, d4⟩ := hpu.1 hw0
              subst d1
              have HD := Lib.hid (And.intro d2 (And.intro d3 d4))
              have HW0 := Lib.hid hw0
              clear hpu d2 d3 d4 hw0
              go_wp2_with fail
              refine (CP.out _ (HKT.out.x.s.call (by (repeat (first | (with_reducible exact Below.refl _ _) | ((with_reducible refine below_alloc ?_ ?_ _); · (first | omega | (simp; done) | (simp; omega))) | ((with_reducible refine below_setCell ?_ ?_ _); · (first | omega | (simp; done) | (simp; omega))) | (with_reducible refine Below.drew ?_) | (with_reducible refine below_drewN ?_ _) | ((with_reducible refine below_call (by assumption) ?_ ?_); · (first | omega | (simp; done) | (simp; omega)))))))).mono ?_; rintro e w2 ⟨un, uh, ut, rfl, ho, hb2⟩
              have hbw : Below wt.heap.size wt w2 := (by (repeat (first | (with_reducible exact Below.refl _ _) | ((with_reducible refine below_alloc ?_ ?_ _); · (first | omega | (simp; done) | (simp; omega))) | ((with_reducible refine below_setCell ?_ ?_ _); · (first | omega | (simp; done) | (simp; omega))) | (with_reducible refine Below.drew ?_) | (with_reducible refine below_drewN ?_ _) | ((with_reducible refine below_call (by assumption) ?_ ?_); · (first | omega | (simp; done) | (simp; omega))))))
              have hK2 := hbox.out _ hbw
              have hI2 := ho.rd hK2.x.s
              have hO := ho.off (g := bs) HKT.out.o (by omega)
              have hO2 := ho.off (g := bs + 1) HKT.out.p (by omega)
              obtain ⟨⟨p3, q3, rfl, -⟩, ⟨p4, q4, rfl, -⟩, ⟨p5, q5, rfl, -⟩⟩ := id hI2
              have H2 := Lib.hid (And.intro hK2 (And.intro hI2 (And.intro hO hO2)))
              obtain ⟨⟨f0, f1, f2⟩, fz, -⟩ := id hK2.x
              have g0 := HRA.out _ hK2
              rw [HW0.out] at g0
              have gz := hK2.c.2.1
              have z2 := hbw.size
              clear hb2 hbw hK2 hI2 hO hO2 ho e0 e1 e2
              go_wp2_with fail
              go_meet
              obtain ⟨hK2, hI2, hO, hO2⟩ := H2.out
              have h9 := (hK2.box (by omega) (by omega) hI2 hO hO2 HD.out.1 HD.out.2.1).put (m := at') (v := li + 1) (by omega) (by omega) hat20
              rw [← HD.out.2.2] at h9
              exact ⟨S', _, _, _, h9⟩
            · obtain ⟨d1, d2⟩ := hpu.2 hw0
              subst d1
              subst d2
              clear hpu
              go_wp2_with fail
              refine (CP.out _ (HKT.out.x.s.call (by (repeat (first | (with_reducible exact Below.refl _ _) | ((with_reducible refine below_alloc ?_ ?_ _); · (first | omega | (simp; done) | (simp; omega))) | ((with_reducible refine below_setCell ?_ ?_ _); · (first | omega | (simp; done) | (simp; omega))) | (with_reducible refine Below.drew ?_) | (with_reducible refine below_drewN ?_ _) | ((with_reducible refine below_call (by assumption) ?_ ?_); · (first | omega | (simp; done) | (simp; omega)))))))).mono ?_; rintro e w2 ⟨un, uh, ut, rfl, ho, hb2⟩
              have hbw : Below wt.heap.size wt w2 := (by (repeat (first | (with_reducible exact Below.refl _ _) | ((with_reducible refine below_alloc ?_ ?_ _); · (first | omega | (simp; done) | (simp; omega))) | ((with_reducible refine below_setCell ?_ ?_ _); · (first | omega | (simp; done) | (simp; omega))) | (with_reducible refine Below.drew ?_) | (with_reducible refine below_drewN ?_ _) | ((with_reducible refine below_call (by assumption) ?_ ?_); · (first | omega | (simp; done) | (simp; omega))))))
              have hK2 := hbox.out _ hbw
              have hI2 := ho.rd hK2.x.s
              have hO := ho.off (g := bs) HKT.out.o (by omega)
              have hO2 := ho.off (g := bs + 1) HKT.out.p (by omega)
              obtain ⟨⟨p3, q3, rfl, -⟩, ⟨p4, q4, rfl, -⟩, ⟨p5, q5, rfl, -⟩⟩ := id hI2
              have H2 := Lib.hid (And.intro hK2 (And.intro hI2 (And.intro hO hO2)))
              obtain ⟨⟨f0, f1, f2⟩, fz, -⟩ := id hK2.x
              have g0 := HRA.out _ hK2
              have gz := hK2.c.2.1
              have z2 := hbw.size
              clear hb2 hbw hK2 hI2 hO hO2 ho e0 e1 e2
              go_wp2_with fail
              go_meet
              obtain ⟨hK2, hI2, hO, hO2⟩ := H2.out
              exact ⟨_, _, _, _, hK2.box (by omega) (by omega) hI2 hO hO2 hK2.r hK2.n⟩
          · as_aux_lemma =>
            have cp := Lib.hid (fun W' (hv : IsLS W' (.slice pn S.1.length qn) (.slice ph S.2.1.length qh) (.slice pt S.2.2.length qt) S) => unlink_any _ _ _ S at' W' hv (Nat.le_trans LN.out.1 (by decide)) LN.out.2.1 LN.out.2.2)
            obtain ⟨HP1, HP2⟩ := HKT.out.unl hat20
            have hwr : 0 ≤ wh S at' := by obtain ⟨L, hL, hR⟩ := HKT.out.r; exact (wh_rng hR (by rw [HKT.out.n]; exact hat20)).1
            have HPU := Lib.hid (And.intro HP1 HP2)
            clear HP1 HP2
            obtain ⟨S', hS'⟩ : ∃ s, unlS S at' = s := ⟨_, rfl⟩
            obtain ⟨E, hE⟩ : ∃ e, unlE S at' = e := ⟨_, rfl⟩
            obtain ⟨r, hr⟩ : ∃ r, wh S at' = r := ⟨_, rfl⟩
            have cp' := cp.out
            have hpu := HPU.out
            rw [hS', hE] at cp' hpu
            rw [hr] at hpu hwr
            have CP := Lib.hid cp'
            have HR := Lib.hid hr
            clear cp' cp HPU hS' hE hr
            by_cases hw0 : r = 0
            · obtain ⟨d1, d2, d3⟩ := hpu.2 hw0
              subst d1
              subst d2
              subst hw0
              have HD := Lib.hid d3
              clear hpu d3 hwr
              go_wp2_with fail
              refine (CP.out _ (HKT.out.x.s.call (by (repeat (first | (with_reducible exact Below.refl _ _) | ((with_reducible refine below_alloc ?_ ?_ _); · (first | omega | (simp; done) | (simp; omega))) | ((with_reducible refine below_setCell ?_ ?_ _); · (first | omega | (simp; done) | (simp; omega))) | (with_reducible refine Below.drew ?_) | (with_reducible refine below_drewN ?_ _) | ((with_reducible refine below_call (by assumption) ?_ ?_); · (first | omega | (simp; done) | (simp; omega)))))))).mono ?_; rintro e w2 ⟨un, uh, ut, rfl, ho, hb2⟩
              have hbw : Below wt.heap.size wt w2 := (by (repeat (first | (with_reducible exact Below.refl _ _) | ((with_reducible refine below_alloc ?_ ?_ _); · (first | omega | (simp; done) | (simp; omega))) | ((with_reducible refine below_setCell ?_ ?_ _); · (first | omega | (simp; done) | (simp; omega))) | (with_reducible refine Below.drew ?_) | (with_reducible refine below_drewN ?_ _) | ((with_reducible refine below_call (by assumption) ?_ ?_); · (first | omega | (simp; done) | (simp; omega))))))
              have hK2 := hbox.out _ hbw
              have hI2 := ho.rd hK2.x.s
              have hO := ho.off (g := bs) HKT.out.o (by omega)
              have hO2 := ho.off (g := bs + 1) HKT.out.p (by omega)
              obtain ⟨⟨p3, q3, rfl, -⟩, ⟨p4, q4, rfl, -⟩, ⟨p5, q5, rfl, -⟩⟩ := id hI2
              have H2 := Lib.hid (And.intro hK2 (And.intro hI2 (And.intro hO hO2)))
              obtain ⟨⟨f0, f1, f2⟩, fz, -⟩ := id hK2.x
              have g0 := HRA.out _ hK2
              rw [HR.out] at g0
              have gz := hK2.c.2.1
              have z2 := hbw.size
              clear hb2 hbw hK2 hI2 hO hO2 ho e0 e1 e2
              go_wp2_with fail
              go_meet
              obtain ⟨hK2, hI2, hO, hO2⟩ := H2.out
              have h9 := (hK2.box (by omega) (by omega) hI2 hO hO2 hK2.r hK2.n).put (m := at') (v := 0) (by omega) (by omega) hat20
              rw [← HD.out] at h9
              exact ⟨_, _, _, _, h9⟩
            · obtain ⟨d1, d2, d3, d4⟩ := hpu.1 hw0
              subst d1
              have HD := Lib.hid (And.intro d2 (And.intro d3 d4))
              have hrp : 0 < r := by omega
              clear hpu d2 d3 d4 hw0 hwr
              go_wp2_with fail
              refine (CP.out _ (HKT.out.x.s.call (by (repeat (first | (with_reducible exact Below.refl _ _) | ((with_reducible refine below_alloc ?_ ?_ _); · (first | omega | (simp; done) | (simp; omega))) | ((with_reducible refine below_setCell ?_ ?_ _); · (first | omega | (simp; done) | (simp; omega))) | (with_reducible refine Below.drew ?_) | (with_reducible refine below_drewN ?_ _) | ((with_reducible refine below_call (by assumption) ?_ ?_); · (first | omega | (simp; done) | (simp; omega)))))))).mono ?_; rintro e w2 ⟨un, uh, ut, rfl, ho, hb2⟩
              have hbw : Below wt.heap.size wt w2 := (by (repeat (first | (with_reducible exact Below.refl _ _) | ((with_reducible refine below_alloc ?_ ?_ _); · (first | omega | (simp; done) | (simp; omega))) | ((with_reducible refine below_setCell ?_ ?_ _); · (first | omega | (simp; done) | (simp; omega))) | (with_reducible refine Below.drew ?_) | (with_reducible refine below_drewN ?_ _) | ((with_reducible refine below_call (by assumption) ?_ ?_); · (first | omega | (simp; done) | (simp; omega))))))
              have hK2 := hbox.out _ hbw
              have hI2 := ho.rd hK2.x.s
              have hO := ho.off (g := bs) HKT.out.o (by omega)
              have hO2 := ho.off (g := bs + 1) HKT.out.p (by omega)
              obtain ⟨⟨p3, q3, rfl, -⟩, ⟨p4, q4, rfl, -⟩, ⟨p5, q5, rfl, -⟩⟩ := id hI2
              have H2 := Lib.hid (And.intro hK2 (And.intro hI2 (And.intro hO hO2)))
              obtain ⟨⟨f0, f1, f2⟩, fz, -⟩ := id hK2.x
              have g0 := HRA.out _ hK2
              rw [HR.out] at g0
              have gz := hK2.c.2.1
              have z2 := hbw.size
              clear hb2 hbw hK2 hI2 hO hO2 ho e0 e1 e2
              go_wp2_with fail
              go_meet
              obtain ⟨hK2, hI2, hO, hO2⟩ := H2.out
              have h9 := (hK2.box (by omega) (by omega) hI2 hO hO2 HD.out.1 HD.out.2.1).put (m := at') (v := 0) (by omega) (by omega) hat20
              rw [← HD.out.2.2] at h9
              exact ⟨S', _, _, _, h9⟩
          · as_aux_lemma =>
            have cp := Lib.hid (fun W' (hv : IsLS W' (.slice pn S.1.length qn) (.slice ph S.2.1.length qh) (.slice pt S.2.2.length qt) S) => turn_any _ _ _ S li W' hv (Nat.le_trans LN.out.1 (by decide)) LN.out.2.1 LN.out.2.2)
            have hpu := HKT.out.turn hli4
            obtain ⟨S', hS'⟩ : ∃ s, turnS S li = s := ⟨_, rfl⟩
            have cp' := cp.out
            rw [hS'] at cp' hpu
            have CP := Lib.hid cp'
            have HD := Lib.hid hpu
            clear cp' cp hpu hS'
            go_wp2_with fail
            refine (CP.out _ (HKT.out.x.s.call (by (repeat (first | (with_reducible exact Below.refl _ _) | ((with_reducible refine below_alloc ?_ ?_ _); · (first | omega | (simp; done) | (simp; omega))) | ((with_reducible refine below_setCell ?_ ?_ _); · (first | omega | (simp; done) | (simp; omega))) | (with_reducible refine Below.drew ?_) | (with_reducible refine below_drewN ?_ _) | ((with_reducible refine below_call (by assumption) ?_ ?_); · (first | omega | (simp; done) | (simp; omega)))))))).mono ?_; rintro e w2 ⟨un, uh, ut, rfl, ho, hb2⟩
            have hbw : Below wt.heap.size wt w2 := (by (repeat (first | (with_reducible exact Below.refl _ _) | ((with_reducible refine below_alloc ?_ ?_ _); · (first | omega | (simp; done) | (simp; omega))) | ((with_reducible refine below_setCell ?_ ?_ _); · (first | omega | (simp; done) | (simp; omega))) | (with_reducible refine Below.drew ?_) | (with_reducible refine below_drewN ?_ _) | ((with_reducible refine below_call (by assumption) ?_ ?_); · (first | omega | (simp; done) | (simp; omega))))))
            have hK2 := hbox.out _ hbw
            have hI2 := ho.rd hK2.x.s
            have hO := ho.off (g := bs) HKT.out.o (by omega)
            have hO2 := ho.off (g := bs + 1) HKT.out.p (by omega)
            obtain ⟨⟨p3, q3, rfl, -⟩, ⟨p4, q4, rfl, -⟩, ⟨p5, q5, rfl, -⟩⟩ := id hI2
            have H2 := Lib.hid (And.intro hK2 (And.intro hI2 (And.intro hO hO2)))
            obtain ⟨⟨f0, f1, f2⟩, fz, -⟩ := id hK2.x
            have z2 := hbw.size
            clear hb2 hbw hK2 hI2 hO hO2 ho e0 e1 e2
            go_wp2_with fail
            go_meet
            obtain ⟨hK2, hI2, hO, hO2⟩ := H2.out
            have h9 := hK2.box (by omega) (by omega) hI2 hO hO2 HD.out.1 HD.out.2.1
            rw [← HD.out.2.2] at h9
            exact ⟨S', _, _, _, h9⟩
          · as_aux_lemma =>
            obtain ⟨tt, htt, htt4⟩ := mod_nat (at' : Int) hat0 4 (by omega)
            replace htt : Int.tmod (at' : Int) 4 = tt := htt
            obtain ⟨htw, htw2, htw4, htw3⟩ := wraps tt (Nat.lt_trans htt4 (by decide))
            obtain ⟨-, -, hlw4, hlw3⟩ := wraps li (Nat.lt_trans hli4 (by decide))
            have HWW := Lib.hid (And.intro htw4 (And.intro htw3 (And.intro hlw4 hlw3)))
            clear htw4 htw3 hlw4 hlw3
            have cp := Lib.hid (fun W' (hv : IsLS W' (.slice pn S.1.length qn) (.slice ph S.2.1.length qh) (.slice pt S.2.2.length qt) S) => splice_any _ _ _ S li tt W' hv (Nat.le_trans LN.out.1 (by decide)) LN.out.2.1 LN.out.2.2)
            obtain ⟨HP1, HP2, HP3⟩ := HKT.out.spl hli4 htt4
            obtain ⟨S', hS'⟩ : ∃ s, splS S li tt = s := ⟨_, rfl⟩
            obtain ⟨E, hE⟩ : ∃ e, splE S li tt = e := ⟨_, rfl⟩
            have cp' := cp.out
            rw [hS', hE] at cp'
            rw [hS'] at HP3
            rw [hE] at HP1 HP2
            have CP := Lib.hid cp'
            have HD := Lib.hid HP3
            clear cp' cp HP3 hS' hE
            have HPP := Lib.hid (And.intro HP1 HP2)
            clear HP1 HP2
            go_wp2_with fail
            refine (CP.out _ (HKT.out.x.s.call (by (repeat (first | (with_reducible exact Below.refl _ _) | ((with_reducible refine below_alloc ?_ ?_ _); · (first | omega | (simp; done) | (simp; omega))) | ((with_reducible refine below_setCell ?_ ?_ _); · (first | omega | (simp; done) | (simp; omega))) | (with_reducible refine Below.drew ?_) | (with_reducible refine below_drewN ?_ _) | ((with_reducible refine below_call (by assumption) ?_ ?_); · (first | omega | (simp; done) | (simp; omega)))))))).mono ?_; rintro e w2 ⟨un, uh, ut, rfl, ho, hb2⟩
            have hbw : Below wt.heap.size wt w2 := (by (repeat (first | (with_reducible exact Below.refl _ _) | ((with_reducible refine below_alloc ?_ ?_ _); · (first | omega | (simp; done) | (simp; omega))) | ((with_reducible refine below_setCell ?_ ?_ _); · (first | omega | (simp; done) | (simp; omega))) | (with_reducible refine Below.drew ?_) | (with_reducible refine below_drewN ?_ _) | ((with_reducible refine below_call (by assumption) ?_ ?_); · (first | omega | (simp; done) | (simp; omega))))))
            have hK2 := hbox.out _ hbw
            have hI2 := ho.rd hK2.x.s
            have hO := ho.off (g := bs) HKT.out.o (by omega)
            have hO2 := ho.off (g := bs + 1) HKT.out.p (by omega)
            obtain ⟨⟨p3, q3, rfl, -⟩, ⟨p4, q4, rfl, -⟩, ⟨p5, q5, rfl, -⟩⟩ := id hI2
            have H2 := Lib.hid (hK2.box (by omega) (by omega) hI2 hO hO2 HD.out.1 HD.out.2.1)
            obtain ⟨⟨f0, f1, f2⟩, fz, -⟩ := id hK2.x
            have z2 := hbw.size
            clear hb2 hbw hK2 hI2 hO hO2 ho e0 e1 e2
            go_upto_region 15 with fail
            go_cut [69] (fun c wx => c = .bool false ∧ Keeps w wx w.heap.size bs (bs + 1) (.slice p3 S'.1.length q3) (.slice p4 S'.2.1.length q4) (.slice p5 S'.2.2.length q5) S' (whR S))
            case first =>
              by_cases hlt' : li = tt
              · have d1 := HPP.out.2 hlt'
                subst d1
                subst hlt'
                go_wp2_with fail
                go_meet
                exact ⟨rfl, H2.out⟩
              · have d1 := HPP.out.1 hlt'
                subst d1
                have hne : ¬ (li : Int) = tt := fun h => hlt' (Int.ofNat.inj h)
                have hne2 : ((li : Int) == tt) = false := by simp [hne]
                have hne3 : ((li : Int) != tt) = true := by simp [bne, hne]
                go_wp2_with fail
                go_meet
                exact ⟨rfl, H2.out⟩
            case rest =>
              obtain ⟨rfl, hF⟩ := hcut
              have H3 := Lib.hid hF
              clear hF H2 f0 f1 f2 fz z2
              go_wp2_with fail
              go_loopw [11] (fun kk wr => ∃ (t : Nat), kk = .int .i64 t ∧ t ≤ 20 ∧ Keeps w wr w.heap.size bs (bs + 1) (.slice p3 S'.1.length q3) (.slice p4 S'.2.1.length q4) (.slice p5 S'.2.2.length q5) S' (((whR S).take t).map (fun r => if r = (li : Int) + 1 then (tt : Int) + 1 else r) ++ (whR S).drop t)) (fun kk _ => 20 - (intOf kk).toNat)
              case atStart => exact ⟨0, rfl, by omega, by rw [List.take_zero, List.map_nil, List.drop_zero, List.nil_append]; exact H3.out⟩
              case round =>
                obtain ⟨t, rfl, ht, hKl⟩ := hrel
                have htl : (t : Int) ≤ 20 := by omega
                have HL := Lib.hid hKl
                have hzl := hKl.c.2.2
                by_cases hlt2 : t < 20
                · have hlt2' : (t : Int) < 20 := by omega
                  have htq : t < (whR S).length := by rw [HKT.out.m]; exact hlt2
                  obtain ⟨hs1, hs2⟩ := sweep_at (whR S) (fun r => if r = (li : Int) + 1 then (tt : Int) + 1 else r) t htq
                  have ck := hKl.c.1 t hs1
                  rw [hs2] at ck
                  obtain ⟨r, hr⟩ : ∃ r, (whR S)[t] = r := ⟨_, rfl⟩
                  rw [hr] at ck
                  have hset := sweep_set (whR S) (fun r => if r = (li : Int) + 1 then (tt : Int) + 1 else r) t htq
                  have hkeep := sweep_keep (whR S) (fun r => if r = (li : Int) + 1 then (tt : Int) + 1 else r) t htq
                  rw [hr] at hset hkeep
                  have fz := hKl.c.2.1
                  have HSK := Lib.hid (And.intro hset hkeep)
                  clear hs1 hs2 hset hkeep hr htq hKl
                  obtain ⟨htw4, htw3, hlw4, hlw3⟩ := HWW.out
                  by_cases hrl : r = (li : Int) + 1
                  · subst hrl
                    go_wp2_with fail
                    go_roundw
                    case rel =>
                      have h9 := HL.out.put (m := t) (v := (tt : Int) + 1) (by omega) (by omega) hlt2
                      have h8 := HSK.out.1
                      rw [if_pos rfl] at h8
                      rw [h8] at h9
                      exact ⟨t + 1, by go_num, hlt2, h9⟩
                    case measure => exact meas1 _ _ hlt2
                  · have hr2 : (r == (li : Int) + 1) = false := by simp [hrl]
                    have HK2 := Lib.hid (HSK.out.2 (show (if r = (li : Int) + 1 then (tt : Int) + 1 else r) = r from if_neg hrl))
                    have ht1 : t + 1 ≤ 20 := hlt2
                    clear hrl HSK hlw3 hlw4 htw3 htw4 htl
                    go_wp2_with fail
                    go_roundw
                    case rel => exact ⟨t + 1, by go_num, ht1, by rw [← HK2.out]; exact HL.out⟩
                    case measure => exact meas1 _ _ hlt2
                · obtain rfl : t = 20 := by omega
                  clear hKl hlt2
                  go_wp2_with fail
                  go_meet
                  have h9 := HL.out
                  have hm := HKT.out.m
                  rw [List.take_of_length_le (by omega), List.drop_of_length_le (by omega), List.append_nil, ← HD.out.2.2] at h9
                  exact ⟨S', _, _, _, h9⟩
        case rest =>
          as_aux_lemma =>
          obtain ⟨S', xn, xh, xt, hK⟩ := hcut
          have hzl := Nat.le_trans (Nat.le_trans hK.b.size (Nat.le_refl _)) (Nat.le_refl _)
          have HKC := Lib.hid hK
          clear hK HKT hout c0 c1 c2 hzt hq hq0 hq4 hliw hliw2 hatw hatw2 hli hat hli4 hat20 hx0 hx1 hy0 hy1 hz0 hz1 hbl0
          obtain ⟨⟨pn, qn, rfl, -⟩, ⟨ph, qh, rfl, -⟩, ⟨pt, qt, rfl, -⟩⟩ := id HKC.out.x.s
          obtain ⟨ln1, ln2, ln3⟩ := HKC.out.len
          have LN := Lib.hid (And.intro ln1 (And.intro ln2 ln3))
          clear ln1 ln2 ln3
          have ck := fun W (hv : IsLS W (.slice pn S'.1.length qn) (.slice ph S'.2.1.length qh) (.slice pt S'.2.2.length qt) S') => chk_any _ _ _ S' W hv (Nat.le_trans LN.out.1 (by decide)) LN.out.2.1 LN.out.2.2
          rw [HKC.out.chk] at ck
          obtain ⟨⟨e0, e1, e2⟩, -, -⟩ := id HKC.out.x
          go_wp2_with fail
          refine (ck _ HKC.out.x.s).mono ?_; rintro e w2 ⟨rfl, hb2⟩
          have HK2 := Lib.hid (HKC.out.call hzl hb2)
          clear ck e0 e1 e2 HKC hb2 hzl
          go_wp2_with fail
          go_loopw [12] (fun jj wr2 => ∃ (j : Nat), jj = .int .i64 j ∧ j ≤ 4 ∧ Hid (Keeps w wr2 w.heap.size bs (bs + 1) (.slice pn S'.1.length qn) (.slice ph S'.2.1.length qh) (.slice pt S'.2.2.length qt) S' (whR S'))) (fun jj _ => 4 - (intOf jj).toNat)
          case atStart => exact ⟨0, rfl, Nat.zero_le _, HK2⟩
          case round =>
            clear HK2
            obtain ⟨j, rfl, hj4, HKJ⟩ := hrel
            by_cases hj : j < 4
            · have hj' : (j : Int) < 4 := by omega
              obtain ⟨X, hX, hXl, hcnt, hmem⟩ := HKJ.out.tell hj
              have HCN := Lib.hid hcnt
              have HME := Lib.hid hmem
              have cw := fun W (hv : IsLS W (.slice pn S'.1.length qn) (.slice ph S'.2.1.length qh) (.slice pt S'.2.2.length qt) S') => walk4_any _ _ _ S' j W hv (Nat.le_trans LN.out.1 (by decide)) LN.out.2.1 LN.out.2.2
              have cb := fun W (hv : IsLS W (.slice pn S'.1.length qn) (.slice ph S'.2.1.length qh) (.slice pt S'.2.2.length qt) S') => back_any _ _ _ S' j W hv LN.out.1 LN.out.2.1 LN.out.2.2
              have cl := fun W (hv : IsLS W (.slice pn S'.1.length qn) (.slice ph S'.2.1.length qh) (.slice pt S'.2.2.length qt) S') => len_any _ _ _ S' j W hv (Nat.le_trans LN.out.1 (by decide)) LN.out.2.1 LN.out.2.2
              rw [hX] at cw cb cl
              obtain ⟨Y, hY⟩ : ∃ Y, X.reverse = Y := ⟨_, rfl⟩
              rw [hY] at cb
              have HYY := Lib.hid hY
              have CW := Lib.hid cw
              have CB := Lib.hid cb
              have CL := Lib.hid cl
              have hsz : w.heap.size ≤ wr.heap.size := HKJ.out.b.size
              have hout := Lib.hid (fun w' (h : Fr wr w') => (show Keeps w w' w.heap.size bs (bs + 1) (.slice pn S'.1.length qn) (.slice ph S'.2.1.length qh) (.slice pt S'.2.2.length qt) S' (whR S') from HKJ.out.call hsz h))
              have hoc := Lib.hid (fun w' (h : Fr wr w') => (show w'.cell? ⟨bs, 0, none⟩ = some (.slice pn S'.1.length qn) ∧ w'.cell? ⟨bs, 1, none⟩ = some (.slice ph S'.2.1.length qh) ∧ w'.cell? ⟨bs, 2, none⟩ = some (.slice pt S'.2.2.length qt) from (hout.out w' h).x.1))
              have F0 : Fr wr wr.drew := Below.drew (Below.refl _ _)
              clear hcnt hmem hX hY cw cb cl
              go_wp2_with fail
              refine wp_region_held_drew (S := fun w' => w'.cell? ⟨bs, 0, none⟩ = some (.slice pn S'.1.length qn) ∧ w'.cell? ⟨bs, 1, none⟩ = some (.slice ph S'.2.1.length qh) ∧ w'.cell? ⟨bs, 2, none⟩ = some (.slice pt S'.2.2.length qt)) (by kernel_rfl) (hoc.out _ (by assumption)) (fun hHeld => ?_)
              (refine wpAnyH_take (i := 0) (v := ?_) rfl (by kernel_rfl) (by kernel_rfl) (by kernel_rfl) (fun _ _ _ h => h) (Or.inl ⟨by rfl, ?_⟩) (by assumption) ?_; rotate_left 1; (focus (intro wz hz; (try dsimp only at hz); (try simp only [List.getElem_toArray, List.getElem_cons_succ, List.getElem_cons_zero]); go_simp; try (with_reducible rfl); done)))
              try simp only [Act.put, List.getElem_toArray, List.getElem_cons_succ, List.getElem_cons_zero, List.setIfInBounds_toArray, List.set_cons_zero, List.set_cons_succ]
              (refine wpAnyH_take (i := 1) (v := ?_) rfl (by kernel_rfl) (by kernel_rfl) (by kernel_rfl) (fun _ _ _ h => h) (Or.inl ⟨by rfl, ?_⟩) (by assumption) ?_; rotate_left 1; (focus (intro wz hz; (try dsimp only at hz); (try simp only [List.getElem_toArray, List.getElem_cons_succ, List.getElem_cons_zero]); go_simp; try (with_reducible rfl); done)))
              try simp only [Act.put, List.getElem_toArray, List.getElem_cons_succ, List.getElem_cons_zero, List.setIfInBounds_toArray, List.set_cons_zero, List.set_cons_succ]
              (refine wpAnyH_take (i := 3) (v := ?_) rfl (by kernel_rfl) (by kernel_rfl) (by kernel_rfl) (fun _ _ _ h => h) (Or.inl ⟨by rfl, ?_⟩) (by assumption) ?_; rotate_left 1; (focus (intro wz hz; (try dsimp only at hz); (try simp only [List.getElem_toArray, List.getElem_cons_succ, List.getElem_cons_zero]); go_simp; try (with_reducible rfl); done)))
              try simp only [Act.put, List.getElem_toArray, List.getElem_cons_succ, List.getElem_cons_zero, List.setIfInBounds_toArray, List.set_cons_zero, List.set_cons_succ]
              (refine wpAnyH_take (i := 4) (v := ?_) rfl (by kernel_rfl) (by kernel_rfl) (by kernel_rfl) (fun _ _ _ h => h) (Or.inl ⟨by rfl, ?_⟩) (by assumption) ?_; rotate_left 1; (focus (intro wz hz; (try dsimp only at hz); (try simp only [List.getElem_toArray, List.getElem_cons_succ, List.getElem_cons_zero]); go_simp; try (with_reducible rfl); done)))
              try simp only [Act.put, List.getElem_toArray, List.getElem_cons_succ, List.getElem_cons_zero, List.setIfInBounds_toArray, List.set_cons_zero, List.set_cons_succ]
              (refine wpAnyH_ready (rs := [2]) (by kernel_rfl) (by simp) ?_; refine AllReadyH.cons rfl (fun K hK => ?_) AllReadyH.nil; (try simp only [List.getElem_toArray, List.getElem_cons_succ, List.getElem_cons_zero]); go_simp; go_at_call 25; refine (CW.out _ (hout.out _ (by assumption)).x.s).mono ?_; rintro e wn2 ⟨va, rfl, hO2, hbn2⟩; obtain ⟨ao, cpa, hve⟩ := rowI_shape hO2; subst hve; have HO2 := Lib.hid hO2; clear hO2; have hTn2 := Fr.call (by assumption) hbn2; (try (go_wp2_with fail)); refine hK.out _ _ (hoc.out _ (by assumption)) (fun hHeld => ?_); clear hK K)
              try simp only [Act.put, List.getElem_toArray, List.getElem_cons_succ, List.getElem_cons_zero, List.setIfInBounds_toArray, List.set_cons_zero, List.set_cons_succ]
              (refine wpAnyH_ready (rs := [5]) (by kernel_rfl) (by simp) ?_; refine AllReadyH.cons rfl (fun K hK => ?_) AllReadyH.nil; (try simp only [List.getElem_toArray, List.getElem_cons_succ, List.getElem_cons_zero]); go_simp; go_at_call 27; refine (CB.out _ (hout.out _ (by assumption)).x.s).mono ?_; rintro e wn5 ⟨vb, rfl, hO5, hbn5⟩; obtain ⟨bo, cpb, hve⟩ := rowI_shape hO5; subst hve; have HO5 := Lib.hid hO5; clear hO5; have hTn5 := Fr.call (by assumption) hbn5; (try (go_wp2_with fail)); refine hK.out _ _ (hoc.out _ (by assumption)) (fun hHeld => ?_); clear hK K)
              try simp only [Act.put, List.getElem_toArray, List.getElem_cons_succ, List.getElem_cons_zero, List.setIfInBounds_toArray, List.set_cons_zero, List.set_cons_succ]
              (refine wpAnyH_take (i := 6) (v := ?_) rfl (by kernel_rfl) (by kernel_rfl) (by kernel_rfl) (fun _ _ _ h => h) (Or.inl ⟨by rfl, ?_⟩) (by assumption) ?_; rotate_left 1; (focus (intro wz hz; (try dsimp only at hz); (try simp only [List.getElem_toArray, List.getElem_cons_succ, List.getElem_cons_zero]); go_simp; try (with_reducible rfl); done)))
              try simp only [Act.put, List.getElem_toArray, List.getElem_cons_succ, List.getElem_cons_zero, List.setIfInBounds_toArray, List.set_cons_zero, List.set_cons_succ]
              (refine wpAnyH_take (i := 7) (v := ?_) rfl (by kernel_rfl) (by kernel_rfl) (by kernel_rfl) (fun _ _ _ h => h) (Or.inl ⟨by rfl, ?_⟩) (by assumption) ?_; rotate_left 1; (focus (intro wz hz; (try dsimp only at hz); (try simp only [List.getElem_toArray, List.getElem_cons_succ, List.getElem_cons_zero]); go_simp; try (with_reducible rfl); done)))
              try simp only [Act.put, List.getElem_toArray, List.getElem_cons_succ, List.getElem_cons_zero, List.setIfInBounds_toArray, List.set_cons_zero, List.set_cons_succ]
              refine wpAnyH_done (by kernel_rfl) ?_ _
              clear hHeld
              have hYl : Y.length = X.length := by rw [← HYY.out, List.length_reverse]
              have HI2 := (HO2.out.call hbn5).reads
              have HI5 := HO5.out.reads
              rw [hYl] at HI5 ⊢
              refine gen_exit (fun W' => Hid (Keeps w W' w.heap.size bs (bs + 1) (.slice pn S'.1.length qn) (.slice ph S'.2.1.length qh) (.slice pt S'.2.2.length qt) S' (whR S')) ∧ Hid (IsI W' (.slice ao X.length cpa) X) ∧ Hid (IsI W' (.slice bo X.length cpb) Y)) ⟨Lib.hid (hout.out _ hTn5), Lib.hid HI2, Lib.hid HI5⟩ (fun wt hF => ?_)
              have HYL := Lib.hid hYl
              clear HI2 HI5 hYl hbn2 hbn5 hTn2 hTn5 HO2 HO5 F0 hout hoc hsz HKJ CW CB
              obtain ⟨HKW, HVA, HVB⟩ := hF
              obtain ⟨⟨e0, e1, e2⟩, -, -⟩ := id HKW.out.x
              go_wp2_with fail
              refine (CL.out _ HKW.out.x.s).mono ?_; rintro e w5 ⟨rfl, hb5⟩
              have HKV := Lib.hid (HKW.out.call HKW.out.b.size hb5)
              have HVA5 := Lib.hid (HVA.out.call hb5)
              have HVB5 := Lib.hid (HVB.out.call hb5)
              clear HKW HVA HVB hb5 e0 e1 e2 CL
              go_wp2_with fail
              go_loopw [15, 16] (fun cc mm wr3 => ∃ t : Nat, mm = .int .i64 t ∧ t ≤ 20 ∧ cc = .int .i64 (((whR S').take t).filter fun r => r == (j : Int) + 1).length ∧ Hid (Keeps w wr3 w.heap.size bs (bs + 1) (.slice pn S'.1.length qn) (.slice ph S'.2.1.length qh) (.slice pt S'.2.2.length qt) S' (whR S')) ∧ Hid (IsI wr3 (.slice ao X.length cpa) X) ∧ Hid (IsI wr3 (.slice bo X.length cpb) Y)) (fun _ mm _ => 20 - (intOf mm).toNat)
              case atStart => exact ⟨0, rfl, Nat.zero_le _, rfl, HKV, HVA5, HVB5⟩
              case round =>
                clear HKV HVA5 HVB5
                obtain ⟨t, rfl, ht, rfl, HKR, HVA, HVB⟩ := hrel
                obtain ⟨-, -, hjw4, hjw3⟩ := wraps j (Nat.lt_trans hj (by decide))
                by_cases hlt2 : t < 20
                · have hlt2' : (t : Int) < 20 := by exact_mod_cast hlt2
                  have htq : t < (whR S').length := by rw [HKR.out.m]; exact hlt2
                  have ct := cnt_take (whR S') ((j : Int) + 1) t htq
                  have cle := cnt_le (whR S') ((j : Int) + 1) t
                  have ck := HKR.out.c.1 t htq
                  obtain ⟨r, hr⟩ : ∃ r, (whR S')[t] = r := ⟨_, rfl⟩
                  rw [hr] at ck ct
                  obtain ⟨c, hc⟩ : ∃ c : Nat, (((whR S').take t).filter fun r => r == (j : Int) + 1).length = c := ⟨_, rfl⟩
                  rw [hc] at ct cle ⊢
                  obtain ⟨-, -, hcw4, hcw3⟩ := wraps c (Nat.lt_of_le_of_lt (Nat.le_trans cle ht) (by decide))
                  clear hr hc htq cle
                  by_cases hrl : r = (j : Int) + 1
                  · rw [if_pos hrl] at ct
                    have CT := Lib.hid ct
                    subst hrl
                    clear ct
                    go_wp2_with fail
                    go_roundw
                    case rel => exact ⟨t + 1, by go_num, hlt2, by rw [CT.out]; go_num, HKR, HVA, HVB⟩
                    case measure => exact meas1 _ _ hlt2
                  · rw [if_neg hrl] at ct
                    have CT := Lib.hid ct
                    have hr2 : (r == (j : Int) + 1) = false := by simp [hrl]
                    clear ct hrl
                    go_wp2_with fail
                    go_roundw
                    case rel => exact ⟨t + 1, by go_num, hlt2, by rw [CT.out]; rfl, HKR, HVA, HVB⟩
                    case measure => exact meas1 _ _ hlt2
                · obtain rfl : t = 20 := Nat.le_antisymm ht (Nat.le_of_not_lt hlt2)
                  rw [List.take_of_length_le (Nat.le_of_eq HKR.out.m), HCN.out]
                  clear hlt2 ht
                  go_wp2_with fail
                  go_loopw [17] (fun uu wr4 => ∃ u : Nat, uu = .int .i64 u ∧ u ≤ X.length ∧ Hid (Keeps w wr4 w.heap.size bs (bs + 1) (.slice pn S'.1.length qn) (.slice ph S'.2.1.length qh) (.slice pt S'.2.2.length qt) S' (whR S')) ∧ Hid (IsI wr4 (.slice ao X.length cpa) X) ∧ Hid (IsI wr4 (.slice bo X.length cpb) Y)) (fun uu _ => X.length - (intOf uu).toNat)
                  case atStart => exact ⟨0, rfl, Nat.zero_le _, HKR, HVA, HVB⟩
                  case round =>
                    clear HKR HVA HVB
                    obtain ⟨u, rfl, hu, HKR, HVA, HVB⟩ := hrel
                    by_cases hux : u < X.length
                    · have hux' : (u : Int) < X.length := by exact_mod_cast hux
                      obtain ⟨m, hXm, hm20, hwm⟩ := HME.out u hux
                      obtain ⟨b1, o1, rfl, da⟩ := row_at HVA.out u hux
                      obtain ⟨b2, o2, rfl, db⟩ := back_at HYY.out HVB.out u hux
                      have hmr : m < (whR S').length := by rw [HKR.out.m]; exact hm20
                      have ck := HKR.out.c.1 m hmr
                      rw [whR_at, hwm] at ck
                      rw [hXm] at da db
                      obtain ⟨hi1, hi2, hi3, hi4, hi5, hi6⟩ := idx_in X.length u hux hXl
                      obtain ⟨v, hv⟩ : ∃ v, X.length - 1 - u = v := ⟨_, rfl⟩
                      rw [hv] at db hi3 hi4 hi5 hi6
                      have hm1 : ¬ (m : Int) < 0 := by exact_mod_cast Nat.not_lt_zero m
                      have hm2 : ¬ (20 : Int) ≤ m := by exact_mod_cast Nat.not_le_of_lt hm20
                      have hm3 : (m : Int) < 20 := by exact_mod_cast hm20
                      clear hXm hwm hmr hv
                      go_wp2_with fail
                      go_quiet (fail)
                      go_wp2_with fail
                      clear hi1 hi2 hi3 hi4 hi5 hi6 hm1 hm2 hm3 da db ck
                      go_roundw
                      case rel => exact ⟨_, _, _, _, _, _, _, _, _, _, _, _, _, _, _, _, _, _, _, _, _, _, _, _, _, _, _, _, _, _, _, _, _, _, _, _, _, _, _, _, _, _, _, _, _, _, _, ⟨u + 1, succ_val u, hux, Lib.hid (HKR.out.call HKR.out.b.size (below_drewN (Below.refl _ _) _)), Lib.hid (HVA.out.call (below_drewN (Below.refl _ _) _)), Lib.hid (HVB.out.call (below_drewN (Below.refl _ _) _))⟩, rfl⟩
                      case measure => exact meas1 _ _ hux
                    · obtain rfl : u = X.length := Nat.le_antisymm hu (Nat.le_of_not_lt hux)
                      clear hux hu
                      go_wp2_with fail
                      go_roundw
                      case rel => exact ⟨j + 1, by go_num, hj, HKR⟩
                      case measure => exact meas1 _ _ hj
            · obtain rfl : j = 4 := Nat.le_antisymm hj4 (Nat.le_of_not_lt hj)
              clear hj hj4
              go_wp2_with fail
              go_roundw
              case rel => exact ⟨k + 1, S', _, _, _, by go_num, hlt, HKJ.out⟩
              case measure => exact meas1 _ _ hlt
      · obtain rfl : k = l.length := by omega
        have hbz := hK.b.size
        have HKE := Lib.hid hK.b
        clear hK HKK hxb hxc
        go_wp2_with fail
        refine (awake_any _).mono ?_; rintro e w2 ⟨rfl, hb2⟩
        have HB2 := Lib.hid (HKE.out.trans (hb2.mono hbz))
        clear hb2
        go_wp2_with fail
        go_ret
        exact ⟨rfl, HB2.out⟩

set_option maxRecDepth 100000 in
theorem ckeeps_lifted (os : Os) (started : os.Started) (H : Type) (enc : TypeId × Value → H) :
    ReturnsInHanded {} Try.checked os 5 .any (Rows.chainKeepsSpec.pre6 enc Try.prog Try.f5 Rows.chainKeepsRow.domain false) (Rows.chainKeepsSpec.post enc Try.prog Try.f5 false true false false) := by
  refine returnsInHanded_of_change (C := Try.checked) own started (by kernel_rfl) Try.func5
    (ChangeSpec.witness6 (enc := enc) (C := Try.checked) false ⟨#[], #[.slice none 0 0], []⟩ 8 (by kernel_rfl) (by kernel_rfl) (by kernel_rfl) (by kernel_rfl)) ?_
  intro W base args ds gs before hval0 hW hcnd _
  have hval : ∀ (j : Nat) t v, Try.f5.params[j]? = some t → args[j]? = some v → Value.okWide Try.prog W .any base t v := hval0
  have hW' := hW
  obtain ⟨p, q, hA0, hV, rfl, hfz, hnd⟩ := hW
  have hA : DataW.TrodAll enc Try.prog W 0 (fun _ => true) true Try.f5.params.toList args.toList ds p := hA0
  rw [Try.params5] at hA hval
  obtain ⟨v0, vs0, d0, ds0, p0, q0, hargs, rfl, rfl, h0, r0⟩ := trodAll_cons hA
  obtain ⟨rfl, rfl, rfl⟩ := trodAll_nil r0
  obtain rfl : args = #[v0] := by cases args; simp_all
  obtain ⟨rfl, rfl⟩ := trodVars_none hV
  obtain ⟨l, hl, hln, hlb⟩ := open_acts (hval 0 56 v0 rfl rfl) h0
  refine (ckeeps_walk v0 l W hl hln (fun x hx => ⟨bounds_u8 (hlb x hx).1, bounds_u8 (hlb x hx).2.1, bounds_u8 (hlb x hx).2.2⟩)).mono fun e W' ⟨he, hb⟩ => ?_
  subst he
  exact ⟨_, rfl, law_post rfl rfl Try.underlying4 (by kernel_rfl) rfl hW' hb⟩
theorem ckeeps_holds : Rows.ChainKeepsSaid :=
  OpenClaim.holds_of_wide 5 Try.f5 rfl rfl rfl rfl rfl rfl rfl ⟨rfl, rfl, rfl, rfl, rfl⟩ rfl rfl rfl rfl rfl (by kernel_rfl) Try.func5 (by kernel_rfl)
    (of_decide_eq_true (by kernel_rfl)) (by unfold Func.isWrapper; first | (rw [if_pos (by decide +kernel)]; kernel_rfl) | (rw [if_neg (by decide +kernel)]; exact ⟨rfl, rfl⟩))
    (fun os started H enc _ => ckeeps_lifted os started H enc)
end Go.Proofs.Ytkcenadenmkgnaa
