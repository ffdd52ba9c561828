/- ChainOrder: places that are put stand in the order in which they were put, and as many turns as there are of them leave it: the statement holds for every input. No condition. -/
import Derived.Test.YtmdkkagpahoapaaLawKit
import Derived.Test.YtmdkkagpahoapaaLawOpenI
import Derived.Test.YtmdkkagpahoapaaC8M
import Derived.Deep.RegionWith
import Derived.Maps.AppendAt
import Derived.Deep.AppendLies
namespace Go.Proofs.Ytmdkkagpahoapaa
open Go.RowKit Go.ChangeShapes Go.WideShapes Go.ChangeAt
set_option linter.unusedVariables false
set_option linter.unusedSimpArgs false

theorem gen_exit {K : Act → World → Prop} {Q : Exit → Act → World → Prop} {a : Act} {W : World} (F : World → Prop) (hF : F W) (h : ∀ wt, F wt → Exit.then K Q .normal a wt) : Exit.then K Q .normal a W := h W hF
/-- one turn of a list of one: what is in front, and what stands behind it -/
theorem turn_one {T : LSt} {W : List Int} {i : Nat} (hR : Rep T [W.drop i ++ W.take i]) (hT : T.1.length = 64) (hi : i < W.length) :
    frontL T 0 = W[i] ∧ (turnS T 0).1.length = 64 ∧ Rep (turnS T 0) [W.drop (i + 1) ++ W.take (i + 1)] := by
  have e : W.drop i ++ W.take i = W[i] :: (W.drop (i + 1) ++ W.take i) := by rw [List.drop_eq_getElem_cons hi]; rfl
  rw [e] at hR
  have h1 := front_rep hR (by omega) (by simp) (i := 0) (by simp)
  obtain ⟨t1, -, t3⟩ := turn_rep hR (by omega) (by simp) (i := 0) (by simp)
  refine ⟨h1, t1.trans hT, ?_⟩
  have h3 := t3 _ _ rfl
  rw [List.take_succ_eq_append_getElem hi, ← List.append_assoc]
  exact h3
/-- what stands behind a place that was put, in whatever order its box was made -/
structure Pushed (w0 Wt : World) (base bs bx : Nat) (un uh ut : Value) (S' : LSt) (vn vh vt : Value) (S : LSt) (aw : Option Addr) (cw : Nat) (W : List Int) : Prop where
  x : Bs Wt bx un uh ut S'
  s : Bs Wt bs vn vh vt S
  o : Off3 bs un uh ut
  l : bs < bx
  v : OwnI Wt (bs + 1) (.slice aw W.length cw) W
  q : ∀ q, (Value.slice aw W.length cw).ownBlock = some q → Off3 q un uh ut ∧ q ≠ bx
  b : Below base w0 Wt
theorem mod_nat (x : Int) (h : 0 ≤ x) : ∃ y : Nat, Int.tmod x 64 = y ∧ y < 64 := by
  rw [Int.tmod_eq_emod_of_nonneg h]
  exact ⟨(x % 64).toNat, by omega, by omega⟩
theorem row_far {w : World} {B b o : Nat} {E : TypeId} {z m : Nat} {v u : Value} {xs : List Value} (h : w.ownsRow B E z v m xs) (hb : ∀ q, v.ownBlock = some q → q ≠ b) : (w.setCell ⟨b, o, none⟩ u).ownsRow B E z v m xs := by
  obtain ⟨h1, h2⟩ := h
  refine ⟨h1, ?_⟩
  rcases h2 with h2 | ⟨g, cap, cur, hv, hB, hg, r⟩
  · exact .inl h2
  · exact .inr ⟨g, cap, cur, hv, hB, (Below.heap_setCell w _ u g (hb g (by rw [hv]; rfl))).trans hg, r⟩
theorem row_lt {w : World} {B b : Nat} {E : TypeId} {z m : Nat} {v : Value} {xs : List Value} (h : w.ownsRow B E z v m xs) (hb : b < B) : ∀ q, v.ownBlock = some q → q ≠ b :=
  fun q hq e => by have := (World.ownsRow.lt h q hq).1; omega
theorem push_one {S : LSt} {W : List Int} (hR : Rep S [W]) (hS : S.1.length = 64) {y : Nat} (hy : y < 64) :
    ((y : Int) ∈ W → pushE S 0 y = 13 ∧ pushS S 0 y = S) ∧ ((y : Int) ∉ W → pushE S 0 y = 0 ∧ Rep (pushS S 0 y) [W ++ [(y : Int)]]) := by
  have h := push_rep hR (by omega) (by simp) (i := 0) (x := y) (by simp) (by omega)
  exact ⟨fun hm => h.1 ⟨0, by simp, hm⟩, fun hm => by
    have h2 := h.2 (fun j hj => by
      have e : j = 0 := by simpa using hj
      subst e
      exact hm)
    exact ⟨h2.1, h2.2.2⟩⟩
theorem row_form {w : World} {B : Nat} {E : TypeId} {z n : Nat} {v : Value} {xs : List Value} (h : w.ownsRow B E z v n xs) : ∃ ao cap, v = .slice ao n cap := by
  rcases h.2 with ⟨rfl, h2⟩ | ⟨g, cap, cur, rfl, -⟩
  · exact ⟨none, 0, by rw [show n = 0 from by have := h.1; simp_all]⟩
  · exact ⟨_, _, rfl⟩
theorem nil_state (w : World) : IsLS w (.slice none 0 0) (.slice none 0 0) (.slice none 0 0) ([], [], []) :=
  ⟨⟨none, 0, rfl, fun j hj => absurd hj (Nat.not_lt_zero j)⟩, ⟨none, 0, rfl, fun j hj => absurd hj (Nat.not_lt_zero j)⟩, ⟨none, 0, rfl, fun j hj => absurd hj (Nat.not_lt_zero j)⟩⟩
set_option maxRecDepth 100000 in
set_option maxHeartbeats 1000000 in
theorem corder_walk (vl : Value) (l : List Int) (w : World) (hv : IsIk .u8 w vl l) (hll : l.length ≤ maxLen) (hlb : ∀ x ∈ l, 0 ≤ x ∧ x ≤ 255) :
    Calls Try.prog 6 #[vl] w fun e w' => e = .returned (.bool true) ∧ Below w.heap.size w w' := by
  unfold maxLen at hll
  obtain ⟨pl, cl, rfl, hp⟩ := hv
  have HP := Lib.hid hp
  clear hp
  by_cases hbig : (40 : Int) < l.length
  · go_enter Try.func6, Try.ntmps6
    go_wp2_with fail
    refine (awake_any _).mono ?_; rintro e w1 ⟨rfl, hb1⟩
    go_wp2_with fail
    go_ret
    exact ⟨rfl, hb1⟩
  · have hsm : (l.length : Int) ≤ 40 := by omega
    clear hbig hll
    obtain ⟨n1, n2, n3, n4⟩ := new_rep 64 1 (by omega) (by omega)
    have c1 := fun W => new_any 64 1 W
    rw [show newE 64 1 = 0 from n1, show newR 64 1 = newS 64 1 from n2] at c1
    obtain ⟨S0, hS0⟩ : ∃ s, newS 64 1 = s := ⟨_, rfl⟩
    rw [hS0] at c1 n3 n4
    have HN := Lib.hid (And.intro n3 n4)
    have HLB := Lib.hid hlb
    clear n1 n2 n3 n4 hS0 hlb
    go_enter Try.func6, Try.ntmps6
    go_wp2_with fail
    refine (c1 _).mono ?_; rintro e w1 ⟨na, ha, ta, rfl, hI, hN, hb1⟩
    have hN := hN trivial
    have ho := hN.off_hi (g := w1.heap.size) (Nat.le_refl _)
    have HI := Lib.hid hI
    have HO := Lib.hid ho
    have hs1 := hb1.size
    obtain ⟨⟨p0, q0, rfl, -⟩, ⟨p1, q1, rfl, -⟩, ⟨p2, q2, rfl, -⟩⟩ := id hI
    have HB1 := Lib.hid hb1
    clear hI hN ho c1
    go_wp2_with fail
    have Ns := Bs.new HI.out 30
    have NB : Below w.heap.size w (w1.alloc (.cells #[.slice p0 S0.1.length q0, .slice p1 S0.2.1.length q1, .slice p2 S0.2.2.length q2] 30)) := by have h := HB1.out; (repeat (first | (with_reducible exact Below.refl _ _) | ((with_reducible refine below_alloc ?_ ?_ _); · (first | omega | (simp; done) | (simp; omega))) | ((with_reducible refine below_setCell ?_ ?_ _); · (first | omega | (simp; done) | (simp; omega))) | (with_reducible refine Below.drew ?_) | (with_reducible refine below_drewN ?_ _) | ((with_reducible refine below_call (by assumption) ?_ ?_); · (first | omega | (simp; done) | (simp; omega)))))
    have NS : w1.heap.size + 1 ≤ (w1.alloc (.cells #[.slice p0 S0.1.length q0, .slice p1 S0.2.1.length q1, .slice p2 S0.2.2.length q2] 30)).heap.size := by simp
    obtain ⟨bs, hbe⟩ : ∃ b, w1.heap.size = b := ⟨_, rfl⟩
    rw [hbe] at Ns HO NS hs1 ⊢
    have H0 := Lib.hid (And.intro Ns (And.intro NB NS))
    clear hbe hb1 Ns NB NS HB1 HI
    go_loopw [5, 6] (fun vw ii wr => ∃ (k : Nat) (W : List Int) (S : LSt) (vn vh vt : Value), ii = .int .i64 k ∧ k ≤ l.length ∧ W.length ≤ k ∧ OwnI wr (bs + 1) vw W ∧ Rep S [W] ∧ S.1.length = 64 ∧ Bs wr bs vn vh vt S ∧ Off3 bs vn vh vt ∧ (∀ q, vw.ownBlock = some q → Off3 q vn vh vt) ∧ Below w.heap.size w wr ∧ bs + 1 ≤ wr.heap.size) (fun _ ii _ => l.length - (intOf ii).toNat)
    case atStart => exact ⟨0, [], S0, _, _, _, rfl, Nat.zero_le _, Nat.le_refl _, OwnI.nil _ _, HN.out.1, HN.out.2, H0.out.1, HO.out, (fun q h => by cases h), H0.out.2.1, H0.out.2.2⟩
    case round =>
      obtain ⟨k, W, S, vn, vh, vt, rfl, hkl, hWk, hW, hR, hSl, hX, hO, hQ, hB, hz⟩ := hrel
      obtain ⟨⟨e0, e1, e2⟩, z, hSI⟩ := id hX
      obtain ⟨lS2, lS3⟩ := rep_len hR
      obtain ⟨⟨p0', q0', rfl, -⟩, ⟨p1', q1', rfl, -⟩, ⟨p2', q2', rfl, -⟩⟩ := id hSI
      obtain ⟨aw, cw, hve⟩ := rowI_shape hW
      subst hve
      have hkl' : (k : Int) ≤ l.length := by omega
      by_cases hlt : k < l.length
      · have hlt' : (k : Int) < l.length := by omega
        obtain ⟨bl, ol, rfl, dl⟩ := HP.out k hlt
        have cl0 : wr.cell? ⟨bl, ol + k, none⟩ = some (.int .u8 l[k]) := (hB.cell (p := ⟨bl, ol + k, none⟩) (World.block_lt_of_cell? _ _ dl)).trans dl
        have hbl : bl < wr.heap.size := World.block_lt_of_cell? _ _ cl0
        have hbl0 : bl < w.heap.size := World.block_lt_of_cell? _ _ dl
        obtain ⟨i1, gi, gj0, gj1, gj2⟩ := info_parts info_int
        obtain ⟨hx0, hx1⟩ := HLB.out l[k] (List.getElem_mem _)
        obtain ⟨x, hx⟩ : ∃ x, l[k] = x := ⟨_, rfl⟩
        rw [hx] at cl0 hx0 hx1 dl
        have CL := Lib.hid dl
        obtain ⟨y, hy, hy64⟩ := mod_nat x hx0
        have hy0 : (0 : Int) ≤ y := by omega
        have hy1 : (y : Int) ≤ 63 := by omega
        have hyw : IntKind.i64.wrap (y : Int) = y := IntWalk.i64_in _ (by omega)
        have hyw2 : wrap64 (y : Int) = y := IntWalk.wrap64_in _ ⟨by omega, by omega⟩
        have cp := Lib.hid (fun W' (hv : IsLS W' (.slice p0' S.1.length q0') (.slice p1' S.2.1.length q1') (.slice p2' S.2.2.length q2') S) => push_any _ _ _ S 0 y W' hv (by omega) (by rw [lS2]; simp) (by rw [lS3]; simp))
        have hpr := push_one hR hSl hy64
        have HX := Lib.hid hX
        have HW := Lib.hid hW
        have HRR := Lib.hid (And.intro hR hSl)
        have HOO := Lib.hid (And.intro hO hQ)
        have HB := Lib.hid hB
        have HPR := Lib.hid hpr
        have hbb := hX.lt
        have HSI := Lib.hid hSI
        have HLL := Lib.hid (And.intro lS2 lS3)
        have hout := Lib.hid (fun w' (h : Below wr.heap.size wr w') => (show w'.cell? ⟨bs, 0, none⟩ = some (.slice p0' S.1.length q0') ∧ w'.cell? ⟨bs, 1, none⟩ = some (.slice p1' S.2.1.length q1') ∧ w'.cell? ⟨bs, 2, none⟩ = some (.slice p2' S.2.2.length q2') ∧ w'.cell? ⟨bl, ol + k, none⟩ = some (.int .u8 x) from ⟨(h.cell (p := ⟨bs, 0, none⟩) hbb).trans e0, (h.cell (p := ⟨bs, 1, none⟩) hbb).trans e1, (h.cell (p := ⟨bs, 2, none⟩) hbb).trans e2, (h.cell (p := ⟨bl, ol + k, none⟩) hbl).trans cl0⟩))
        clear hx dl hX hW hR hSl hO hQ hB hpr hSI lS2 lS3 e0 e1 e2 z cl0
        go_wp2_with fail
        refine wp_region_held_drew (S := fun w' => w'.cell? ⟨bs, 0, none⟩ = some (.slice p0' S.1.length q0') ∧ w'.cell? ⟨bs, 1, none⟩ = some (.slice p1' S.2.1.length q1') ∧ w'.cell? ⟨bs, 2, none⟩ = some (.slice p2' S.2.2.length q2') ∧ w'.cell? ⟨bl, ol + k, none⟩ = some (.int .u8 x)) (by kernel_rfl) (hout.out _ (by (repeat (first | (with_reducible exact Below.refl _ _) | ((with_reducible refine below_alloc ?_ ?_ _); · (first | omega | (simp; done) | (simp; omega))) | ((with_reducible refine below_setCell ?_ ?_ _); · (first | omega | (simp; done) | (simp; omega))) | (with_reducible refine Below.drew ?_) | (with_reducible refine below_drewN ?_ _) | ((with_reducible refine below_call (by assumption) ?_ ?_); · (first | omega | (simp; done) | (simp; omega))))))) (fun hHeld => ?_)
        (refine wpAnyH_take (i := 0) (v := ?_) rfl (by kernel_rfl) (by kernel_rfl) (by kernel_rfl) (fun _ _ _ h => h) (Or.inl ⟨by rfl, ?_⟩) (by assumption) ?_; rotate_left 1; (focus (intro wz hz; (try dsimp only at hz); (try simp only [List.getElem_toArray, List.getElem_cons_succ, List.getElem_cons_zero]); go_simp; try (with_reducible rfl); done)))
        try simp only [Act.put, List.getElem_toArray, List.getElem_cons_succ, List.getElem_cons_zero, List.setIfInBounds_toArray, List.set_cons_zero, List.set_cons_succ]
        (refine wpAnyH_take (i := 1) (v := ?_) rfl (by kernel_rfl) (by kernel_rfl) (by kernel_rfl) (fun _ _ _ h => h) (Or.inl ⟨by rfl, ?_⟩) (by assumption) ?_; rotate_left 1; (focus (intro wz hz; (try dsimp only at hz); (try simp only [List.getElem_toArray, List.getElem_cons_succ, List.getElem_cons_zero]); go_simp; try (with_reducible rfl); done)))
        try simp only [Act.put, List.getElem_toArray, List.getElem_cons_succ, List.getElem_cons_zero, List.setIfInBounds_toArray, List.set_cons_zero, List.set_cons_succ]
        (refine wpAnyH_take (i := 2) (v := ?_) rfl (by kernel_rfl) (by kernel_rfl) (by kernel_rfl) (fun _ _ _ h => h) (Or.inl ⟨by rfl, ?_⟩) (by assumption) ?_; rotate_left 1; (focus (intro wz hz; (try dsimp only at hz); (try simp only [List.getElem_toArray, List.getElem_cons_succ, List.getElem_cons_zero]); go_simp; try (with_reducible rfl); done)))
        try simp only [Act.put, List.getElem_toArray, List.getElem_cons_succ, List.getElem_cons_zero, List.setIfInBounds_toArray, List.set_cons_zero, List.set_cons_succ]
        (refine wpAnyH_take (i := 3) (v := ?_) rfl (by kernel_rfl) (by kernel_rfl) (by kernel_rfl) (fun _ _ _ h => h) (Or.inl ⟨by rfl, ?_⟩) (by assumption) ?_; rotate_left 1; (focus (intro wz hz; (try dsimp only at hz); (try simp only [List.getElem_toArray, List.getElem_cons_succ, List.getElem_cons_zero]); go_simp; try (with_reducible rfl); done)))
        try simp only [Act.put, List.getElem_toArray, List.getElem_cons_succ, List.getElem_cons_zero, List.setIfInBounds_toArray, List.set_cons_zero, List.set_cons_succ]
        (refine wpAnyH_take (i := 4) (v := ?_) rfl (by kernel_rfl) (by kernel_rfl) (by kernel_rfl) (fun _ _ _ h => h) (Or.inl ⟨by rfl, ?_⟩) (by assumption) ?_; rotate_left 1; (focus (intro wz hz; (try dsimp only at hz); (try simp only [List.getElem_toArray, List.getElem_cons_succ, List.getElem_cons_zero]); go_simp; try (with_reducible rfl); done)))
        try simp only [Act.put, List.getElem_toArray, List.getElem_cons_succ, List.getElem_cons_zero, List.setIfInBounds_toArray, List.set_cons_zero, List.set_cons_succ]
        (refine wpAnyH_take (i := 5) (v := ?_) rfl (by kernel_rfl) (by kernel_rfl) (by kernel_rfl) (fun _ _ _ h => h) (Or.inl ⟨by rfl, ?_⟩) (by assumption) ?_; rotate_left 1; (focus (intro wz hz; (try dsimp only at hz); (try simp only [List.getElem_toArray, List.getElem_cons_succ, List.getElem_cons_zero]); go_simp; try (with_reducible rfl); done)))
        try simp only [Act.put, List.getElem_toArray, List.getElem_cons_succ, List.getElem_cons_zero, List.setIfInBounds_toArray, List.set_cons_zero, List.set_cons_succ]
        (refine wpAnyH_take (i := 6) (v := ?_) rfl (by kernel_rfl) (by kernel_rfl) (by kernel_rfl) (fun _ _ _ h => h) (Or.inl ⟨by rfl, ?_⟩) (by assumption) ?_; rotate_left 1; (focus (intro wz hz; (try dsimp only at hz); (try simp only [List.getElem_toArray, List.getElem_cons_succ, List.getElem_cons_zero]); go_simp; try (with_reducible rfl); done)))
        try simp only [Act.put, List.getElem_toArray, List.getElem_cons_succ, List.getElem_cons_zero, List.setIfInBounds_toArray, List.set_cons_zero, List.set_cons_succ]
        refine wpAnyH_ready (rs := [7, 11]) (by kernel_rfl) (by simp) ?_
        refine AllReadyH.cons rfl (fun K hK => ?_) (AllReadyH.cons rfl (fun K hK => ?_) AllReadyH.nil)
        · (try simp only [List.getElem_toArray, List.getElem_cons_succ, List.getElem_cons_zero])
          go_simp
          go_at_call 10
          refine (cp.out _ (HSI.out.call (by (repeat (first | (with_reducible exact Below.refl _ _) | ((with_reducible refine below_alloc ?_ ?_ _); · (first | omega | (simp; done) | (simp; omega))) | ((with_reducible refine below_setCell ?_ ?_ _); · (first | omega | (simp; done) | (simp; omega))) | (with_reducible refine Below.drew ?_) | (with_reducible refine below_drewN ?_ _) | ((with_reducible refine below_call (by assumption) ?_ ?_); · (first | omega | (simp; done) | (simp; omega)))))))).mono ?_
          rintro e w2 ⟨un, uh, ut, rfl, ho, hb2⟩
          have hbw : Below wr.heap.size wr w2 := (by (repeat (first | (with_reducible exact Below.refl _ _) | ((with_reducible refine below_alloc ?_ ?_ _); · (first | omega | (simp; done) | (simp; omega))) | ((with_reducible refine below_setCell ?_ ?_ _); · (first | omega | (simp; done) | (simp; omega))) | (with_reducible refine Below.drew ?_) | (with_reducible refine below_drewN ?_ _) | ((with_reducible refine below_call (by assumption) ?_ ?_); · (first | omega | (simp; done) | (simp; omega))))))
          have zx := hbw.size
          have zy := hb2.size
          (try simp only [World.size_drew, World.size_alloc] at zy)
          have kx := (fun o (h : wr.heap.size < _) => hb2.cell (p := ⟨wr.heap.size, o, none⟩) h)
          have fx := (fun o (h : wr.heap.size < _) => hb2.frozen (p := ⟨wr.heap.size, o, none⟩) h)
          have hI2 := ho.rd (HSI.out.call hbw)
          obtain ⟨⟨p3, q3, rfl, -⟩, ⟨p4, q4, rfl, -⟩, ⟨p5, q5, rfl, -⟩⟩ := id hI2
          have HI2 := Lib.hid hI2
          have HO2 := Lib.hid ho
          have HB2 := Lib.hid hb2
          clear hI2 ho
          clear hHeld
          refine hK.out _ _ (hout.out _ hbw) (fun hHeld => ?_)
          clear hK K
          try simp only [Act.put, List.getElem_toArray, List.getElem_cons_succ, List.getElem_cons_zero, List.setIfInBounds_toArray, List.set_cons_zero, List.set_cons_succ]
          (refine wpAnyH_take (i := 8) (v := ?_) rfl (by kernel_rfl) (by kernel_rfl) (by kernel_rfl) (fun _ _ _ h => h) (Or.inl ⟨by rfl, ?_⟩) (by assumption) ?_; rotate_left 1; (focus (intro wz hz; (try dsimp only at hz); (try simp only [List.getElem_toArray, List.getElem_cons_succ, List.getElem_cons_zero]); go_simp; try (with_reducible rfl); done)))
          try simp only [Act.put, List.getElem_toArray, List.getElem_cons_succ, List.getElem_cons_zero, List.setIfInBounds_toArray, List.set_cons_zero, List.set_cons_succ]
          (refine wpAnyH_take (i := 9) (v := ?_) rfl (by kernel_rfl) (by kernel_rfl) (by kernel_rfl) (fun _ _ _ h => h) (Or.inl ⟨by rfl, ?_⟩) (by assumption) ?_; rotate_left 1; (focus (intro wz hz; (try dsimp only at hz); (try simp only [List.getElem_toArray, List.getElem_cons_succ, List.getElem_cons_zero]); go_simp; try (with_reducible rfl); done)))
          try simp only [Act.put, List.getElem_toArray, List.getElem_cons_succ, List.getElem_cons_zero, List.setIfInBounds_toArray, List.set_cons_zero, List.set_cons_succ]
          (refine wpAnyH_take (i := 10) (v := ?_) rfl (by kernel_rfl) (by kernel_rfl) (by kernel_rfl) (fun _ _ _ h => h) (Or.inl ⟨by rfl, ?_⟩) (by assumption) ?_; rotate_left 1; (focus (intro wz hz; (try dsimp only at hz); (try simp only [List.getElem_toArray, List.getElem_cons_succ, List.getElem_cons_zero]); go_simp; try (with_reducible rfl); done)))
          try simp only [Act.put, List.getElem_toArray, List.getElem_cons_succ, List.getElem_cons_zero, List.setIfInBounds_toArray, List.set_cons_zero, List.set_cons_succ]
          refine wpAnyH_ready (rs := [11]) (by kernel_rfl) (by simp) ?_
          refine AllReadyH.cons rfl (fun K hK => ?_) AllReadyH.nil
          (try simp only [List.getElem_toArray, List.getElem_cons_succ, List.getElem_cons_zero])
          go_simp
          clear hHeld
          refine hK.out _ _ (hout.out _ (by (repeat (first | (with_reducible exact Below.refl _ _) | ((with_reducible refine below_alloc ?_ ?_ _); · (first | omega | (simp; done) | (simp; omega))) | ((with_reducible refine below_setCell ?_ ?_ _); · (first | omega | (simp; done) | (simp; omega))) | (with_reducible refine Below.drew ?_) | (with_reducible refine below_drewN ?_ _) | ((with_reducible refine below_call (by assumption) ?_ ?_); · (first | omega | (simp; done) | (simp; omega))))))) (fun hHeld => ?_)
          clear hK K
          try simp only [Act.put, List.getElem_toArray, List.getElem_cons_succ, List.getElem_cons_zero, List.setIfInBounds_toArray, List.set_cons_zero, List.set_cons_succ]
          refine wpAnyH_ready (rs := [12]) (by kernel_rfl) (by simp) ?_
          refine AllReadyH.cons rfl (fun K hK => ?_) AllReadyH.nil
          (try simp only [List.getElem_toArray, List.getElem_cons_succ, List.getElem_cons_zero])
          go_simp
          clear hHeld
          refine hK.out _ _ (hout.out _ (by (repeat (first | (with_reducible exact Below.refl _ _) | ((with_reducible refine below_alloc ?_ ?_ _); · (first | omega | (simp; done) | (simp; omega))) | ((with_reducible refine below_setCell ?_ ?_ _); · (first | omega | (simp; done) | (simp; omega))) | (with_reducible refine Below.drew ?_) | (with_reducible refine below_drewN ?_ _) | ((with_reducible refine below_call (by assumption) ?_ ?_); · (first | omega | (simp; done) | (simp; omega))))))) (fun hHeld => ?_)
          clear hK K
          try simp only [Act.put, List.getElem_toArray, List.getElem_cons_succ, List.getElem_cons_zero, List.setIfInBounds_toArray, List.set_cons_zero, List.set_cons_succ]
          (refine wpAnyH_take (i := 13) (v := ?_) rfl (by kernel_rfl) (by kernel_rfl) (by kernel_rfl) (fun _ _ _ h => h) (Or.inl ⟨by rfl, ?_⟩) (by assumption) ?_; rotate_left 1; (focus (intro wz hz; (try dsimp only at hz); (try simp only [List.getElem_toArray, List.getElem_cons_succ, List.getElem_cons_zero]); go_simp; try (with_reducible rfl); done)))
          try simp only [Act.put, List.getElem_toArray, List.getElem_cons_succ, List.getElem_cons_zero, List.setIfInBounds_toArray, List.set_cons_zero, List.set_cons_succ]
          refine wpAnyH_done (by kernel_rfl) ?_ _
          have hqw : ∀ q, (Value.slice aw W.length cw).ownBlock = some q → q < wr.heap.size := fun q hq => (World.ownsRow.lt HW.out q hq).2
          have hoff : Off3 bs (.slice p3 (pushS S 0 ↑y).1.length q3) (.slice p4 (pushS S 0 ↑y).2.1.length q4) (.slice p5 (pushS S 0 ↑y).2.2.length q5) := HO2.out.off HOO.out.1 (by (try simp only [World.size_drew, World.size_alloc]); omega)
          have hqq : ∀ q, (Value.slice aw W.length cw).ownBlock = some q → Off3 q (.slice p3 (pushS S 0 ↑y).1.length q3) (.slice p4 (pushS S 0 ↑y).2.1.length q4) (.slice p5 (pushS S 0 ↑y).2.2.length q5) := fun q hq => HO2.out.off (HOO.out.2 q hq) (by have := hqw q hq; (try simp only [World.size_drew, World.size_alloc]); omega)
          clear hHeld
          have hP : Pushed w (w2.alloc (.cells #[.slice p3 (pushS S 0 ↑y).1.length q3, .slice p4 (pushS S 0 ↑y).2.1.length q4, .slice p5 (pushS S 0 ↑y).2.2.length q5] 30)) w.heap.size bs w2.heap.size (.slice p3 (pushS S 0 ↑y).1.length q3) (.slice p4 (pushS S 0 ↑y).2.1.length q4) (.slice p5 (pushS S 0 ↑y).2.2.length q5) (pushS S 0 ↑y) (.slice p0' S.1.length q0') (.slice p1' S.2.1.length q1') (.slice p2' S.2.2.length q2') S aw cw W := by
            have hbt : Below wr.heap.size wr (w2.alloc (.cells #[.slice p3 (pushS S 0 ↑y).1.length q3, .slice p4 (pushS S 0 ↑y).2.1.length q4, .slice p5 (pushS S 0 ↑y).2.2.length q5] 30)) := by (repeat (first | (with_reducible exact Below.refl _ _) | ((with_reducible refine below_alloc ?_ ?_ _); · (first | omega | (simp; done) | (simp; omega))) | ((with_reducible refine below_setCell ?_ ?_ _); · (first | omega | (simp; done) | (simp; omega))) | (with_reducible refine Below.drew ?_) | (with_reducible refine below_drewN ?_ _) | ((with_reducible refine below_call (by assumption) ?_ ?_); · (first | omega | (simp; done) | (simp; omega)))))
            exact ⟨Bs.new HI2.out _, HX.out.call hbt, hoff, by omega, HW.out.call hbt, fun q hq => ⟨hqq q hq, by have := hqw q hq; omega⟩, HB.out.trans (hbt.mono HB.out.size)⟩
          refine gen_exit (fun W' => Pushed w W' w.heap.size bs w2.heap.size (.slice p3 (pushS S 0 ↑y).1.length q3) (.slice p4 (pushS S 0 ↑y).2.1.length q4) (.slice p5 (pushS S 0 ↑y).2.2.length q5) (pushS S 0 ↑y) (.slice p0' S.1.length q0') (.slice p1' S.2.1.length q1') (.slice p2' S.2.2.length q2') S aw cw W) hP (fun wt hP => ?_)
          generalize w2.heap.size = bx at hP ⊢
          clear hqw hoff hqq kx fx zx zy hbw hb2 HI2 HO2 HB2
          obtain ⟨S', hS'⟩ : ∃ s, pushS S 0 ↑y = s := ⟨_, rfl⟩
          obtain ⟨E, hE⟩ : ∃ s, pushE S 0 ↑y = s := ⟨_, rfl⟩
          have hpl := (push_len S 0 ↑y).1
          have hpr := HPR.out
          rw [hS'] at hpl hP hpr
          rw [hE] at hpr
          rw [hS', hE]
          have hHP := HP
          have HPP := Lib.hid hP
          have HSL := Lib.hid (hpl.trans HRR.out.2)
          obtain ⟨⟨f0, f1, f2⟩, fz, -⟩ := id hP.x
          obtain ⟨⟨e0, e1, e2⟩, ez, -⟩ := id hP.s
          have hlx := hP.l
          have hxs := hP.x.lt
          have hPB := hP.b
          have hpz := hPB.size
          have clt : wt.cell? ⟨bl, ol + k, none⟩ = some (.int .u8 x) := (Below.cell hPB (p := ⟨bl, ol + k, none⟩) hbl0).trans CL.out
          clear hP hpl hS' hE HPR
          by_cases hm : (y : Int) ∈ W
          · obtain ⟨d1, d2⟩ := hpr.1 hm
            have HPR2 := Lib.hid d2
            subst d1
            clear hpr d2 clt
            go_wp2_with fail
            go_roundw
            case rel => exact ⟨k + 1, W, S', .slice p3 S'.1.length q3, .slice p4 S'.2.1.length q4, .slice p5 S'.2.2.length q5, by go_num, by omega, by omega, row_far (row_far (row_far HPP.out.v (row_lt HPP.out.v (by omega))) (row_lt HPP.out.v (by omega))) (row_lt HPP.out.v (by omega)), by rw [HPR2.out]; exact HRR.out.1, HSL.out, HPP.out.s.put HPP.out.x.s HPP.out.o, HPP.out.o, fun q hq => (HPP.out.q q hq).1, by have hPB := HPP.out.b; (repeat (first | (with_reducible exact Below.refl _ _) | ((with_reducible refine below_alloc ?_ ?_ _); · (first | omega | (simp; done) | (simp; omega))) | ((with_reducible refine below_setCell ?_ ?_ _); · (first | omega | (simp; done) | (simp; omega))) | (with_reducible refine Below.drew ?_) | (with_reducible refine below_drewN ?_ _) | ((with_reducible refine below_call (by assumption) ?_ ?_); · (first | omega | (simp; done) | (simp; omega))))), by simp only [World.size_setCell]; omega⟩
            case measure => simp [intOf]; omega
          · obtain ⟨d1, d2⟩ := hpr.2 hm
            have HPR2 := Lib.hid d2
            subst d1
            clear hpr d2
            go_wp2_with (at_builtin; (conv => skip); refine stopHere ?_)
            refine And.intro ?_ trivial
            refine wpList_append_own_at _ rfl _ _ 23 rfl (bs + 1) 3 i1 (.int .i64 0) 1 8 Try.underlying23 gi gj0 gj1 gj2 rfl (by decide) _ W.length (W.map (Value.int .i64)) rfl (World.ownsRow.alloc HPP.out.v _) ⟨wt.heap.size, 0, none⟩ 1 1 [.int .i64 y] rfl rfl (cell_one_new _ _ _) (by simp [Value.oneCell']) (by unfold maxLen; omega) (by omega) (by simp; omega) ?_
            intro v' w6 hown' hgr _ hat
            have hb6 : Below (bs + 1) wt w6 := ((Below.refl _ _).alloc (by omega) _).grown hgr (by simp; omega) (fun q hq => (World.ownsRow.lt HPP.out.v q hq).1)
            have hs6 := hb6.size
            have hba : Below wt.heap.size wt (wt.alloc (.cells #[.int .i64 y] 3)) := (Below.refl _ _).alloc (Nat.le_refl _) _
            have hXb := (HPP.out.x.call hba).grown hgr (fun q hq => HPP.out.q q hq)
            have hSb := (HPP.out.s.call hba).grown hgr (fun q hq => ⟨HOO.out.2 q hq, row_lt HPP.out.v (by omega) q hq⟩)
            have hnew := fun g hg => HPP.out.x.s.off_new (g := g) (by rw [HSL.out]; decide) (by rw [(rep_len HPR2.out).1]; simp) (by rw [(rep_len HPR2.out).2]; simp) hg
            have hoff' : ∀ q, v'.ownBlock = some q → Off3 q (.slice p3 S'.1.length q3) (.slice p4 S'.2.1.length q4) (.slice p5 S'.2.2.length q5) := fun q hq => by
              rcases hat with hat | hat
              · exact (HPP.out.q q (hat ▸ hq)).1
              · rw [hat] at hq
                cases hq
                exact hnew _ (by simp)
            have hB6 : Below w.heap.size w w6 := HPP.out.b.trans (hb6.mono (by omega))
            obtain ⟨va, vc, rfl⟩ := row_form hown'
            have hown6 : OwnI w6 (bs + 1) (.slice va (W.length + 1) vc) (W ++ [(y : Int)]) := by
              show World.ownsRow _ _ _ _ _ _ _
              rw [List.length_append, List.map_append]; exact hown'
            obtain ⟨⟨r0, r1, r2⟩, rz, -⟩ := id hXb
            obtain ⟨⟨s0, s1, s2⟩, sz, -⟩ := id hSb
            have H6 := Lib.hid (And.intro hXb (And.intro hSb (And.intro hoff' (And.intro hB6 hown6))))
            clear hb6 hba hXb hSb hnew hoff' hB6 hown6 hown' hgr hat e0 e1 e2 ez f0 f1 f2 fz clt
            go_wp2_with fail
            go_roundw
            case rel =>
              obtain ⟨gXb, gSb, goff, gB6, gown⟩ := H6.out
              exact ⟨k + 1, W ++ [(y : Int)], S', .slice p3 S'.1.length q3, .slice p4 S'.2.1.length q4, .slice p5 S'.2.2.length q5, by go_num, by omega, by rw [List.length_append, List.length_singleton]; omega, row_far (row_far (row_far gown (row_lt gown (by omega))) (row_lt gown (by omega))) (row_lt gown (by omega)), HPR2.out, HSL.out, gSb.put gXb.s HPP.out.o, HPP.out.o, goff, by (repeat (first | (with_reducible exact Below.refl _ _) | ((with_reducible refine below_alloc ?_ ?_ _); · (first | omega | (simp; done) | (simp; omega))) | ((with_reducible refine below_setCell ?_ ?_ _); · (first | omega | (simp; done) | (simp; omega))) | (with_reducible refine Below.drew ?_) | (with_reducible refine below_drewN ?_ _) | ((with_reducible refine below_call (by assumption) ?_ ?_); · (first | omega | (simp; done) | (simp; omega))))), by simp only [World.size_setCell]; omega⟩
            case measure => simp [intOf]; omega
        · (try simp only [List.getElem_toArray, List.getElem_cons_succ, List.getElem_cons_zero])
          go_simp
          clear hHeld
          refine hK.out _ _ (hout.out _ (by (repeat (first | (with_reducible exact Below.refl _ _) | ((with_reducible refine below_alloc ?_ ?_ _); · (first | omega | (simp; done) | (simp; omega))) | ((with_reducible refine below_setCell ?_ ?_ _); · (first | omega | (simp; done) | (simp; omega))) | (with_reducible refine Below.drew ?_) | (with_reducible refine below_drewN ?_ _) | ((with_reducible refine below_call (by assumption) ?_ ?_); · (first | omega | (simp; done) | (simp; omega))))))) (fun hHeld => ?_)
          clear hK K
          try simp only [Act.put, List.getElem_toArray, List.getElem_cons_succ, List.getElem_cons_zero, List.setIfInBounds_toArray, List.set_cons_zero, List.set_cons_succ]
          refine wpAnyH_ready (rs := [7]) (by kernel_rfl) (by simp) ?_
          refine AllReadyH.cons rfl (fun K hK => ?_) AllReadyH.nil
          (try simp only [List.getElem_toArray, List.getElem_cons_succ, List.getElem_cons_zero])
          go_simp
          go_at_call 10
          refine (cp.out _ (HSI.out.call (by (repeat (first | (with_reducible exact Below.refl _ _) | ((with_reducible refine below_alloc ?_ ?_ _); · (first | omega | (simp; done) | (simp; omega))) | ((with_reducible refine below_setCell ?_ ?_ _); · (first | omega | (simp; done) | (simp; omega))) | (with_reducible refine Below.drew ?_) | (with_reducible refine below_drewN ?_ _) | ((with_reducible refine below_call (by assumption) ?_ ?_); · (first | omega | (simp; done) | (simp; omega)))))))).mono ?_
          rintro e w2 ⟨un, uh, ut, rfl, ho, hb2⟩
          have hbw : Below wr.heap.size wr w2 := (by (repeat (first | (with_reducible exact Below.refl _ _) | ((with_reducible refine below_alloc ?_ ?_ _); · (first | omega | (simp; done) | (simp; omega))) | ((with_reducible refine below_setCell ?_ ?_ _); · (first | omega | (simp; done) | (simp; omega))) | (with_reducible refine Below.drew ?_) | (with_reducible refine below_drewN ?_ _) | ((with_reducible refine below_call (by assumption) ?_ ?_); · (first | omega | (simp; done) | (simp; omega))))))
          have zx := hbw.size
          have zy := hb2.size
          (try simp only [World.size_drew, World.size_alloc] at zy)
          have kx := (fun o (h : wr.heap.size < _) => hb2.cell (p := ⟨wr.heap.size, o, none⟩) h)
          have fx := (fun o (h : wr.heap.size < _) => hb2.frozen (p := ⟨wr.heap.size, o, none⟩) h)
          have hI2 := ho.rd (HSI.out.call hbw)
          obtain ⟨⟨p3, q3, rfl, -⟩, ⟨p4, q4, rfl, -⟩, ⟨p5, q5, rfl, -⟩⟩ := id hI2
          have HI2 := Lib.hid hI2
          have HO2 := Lib.hid ho
          have HB2 := Lib.hid hb2
          clear hI2 ho
          clear hHeld
          refine hK.out _ _ (hout.out _ hbw) (fun hHeld => ?_)
          clear hK K
          try simp only [Act.put, List.getElem_toArray, List.getElem_cons_succ, List.getElem_cons_zero, List.setIfInBounds_toArray, List.set_cons_zero, List.set_cons_succ]
          (refine wpAnyH_take (i := 8) (v := ?_) rfl (by kernel_rfl) (by kernel_rfl) (by kernel_rfl) (fun _ _ _ h => h) (Or.inl ⟨by rfl, ?_⟩) (by assumption) ?_; rotate_left 1; (focus (intro wz hz; (try dsimp only at hz); (try simp only [List.getElem_toArray, List.getElem_cons_succ, List.getElem_cons_zero]); go_simp; try (with_reducible rfl); done)))
          try simp only [Act.put, List.getElem_toArray, List.getElem_cons_succ, List.getElem_cons_zero, List.setIfInBounds_toArray, List.set_cons_zero, List.set_cons_succ]
          (refine wpAnyH_take (i := 9) (v := ?_) rfl (by kernel_rfl) (by kernel_rfl) (by kernel_rfl) (fun _ _ _ h => h) (Or.inl ⟨by rfl, ?_⟩) (by assumption) ?_; rotate_left 1; (focus (intro wz hz; (try dsimp only at hz); (try simp only [List.getElem_toArray, List.getElem_cons_succ, List.getElem_cons_zero]); go_simp; try (with_reducible rfl); done)))
          try simp only [Act.put, List.getElem_toArray, List.getElem_cons_succ, List.getElem_cons_zero, List.setIfInBounds_toArray, List.set_cons_zero, List.set_cons_succ]
          (refine wpAnyH_take (i := 10) (v := ?_) rfl (by kernel_rfl) (by kernel_rfl) (by kernel_rfl) (fun _ _ _ h => h) (Or.inl ⟨by rfl, ?_⟩) (by assumption) ?_; rotate_left 1; (focus (intro wz hz; (try dsimp only at hz); (try simp only [List.getElem_toArray, List.getElem_cons_succ, List.getElem_cons_zero]); go_simp; try (with_reducible rfl); done)))
          try simp only [Act.put, List.getElem_toArray, List.getElem_cons_succ, List.getElem_cons_zero, List.setIfInBounds_toArray, List.set_cons_zero, List.set_cons_succ]
          refine wpAnyH_ready (rs := [12]) (by kernel_rfl) (by simp) ?_
          refine AllReadyH.cons rfl (fun K hK => ?_) AllReadyH.nil
          (try simp only [List.getElem_toArray, List.getElem_cons_succ, List.getElem_cons_zero])
          go_simp
          clear hHeld
          refine hK.out _ _ (hout.out _ (by (repeat (first | (with_reducible exact Below.refl _ _) | ((with_reducible refine below_alloc ?_ ?_ _); · (first | omega | (simp; done) | (simp; omega))) | ((with_reducible refine below_setCell ?_ ?_ _); · (first | omega | (simp; done) | (simp; omega))) | (with_reducible refine Below.drew ?_) | (with_reducible refine below_drewN ?_ _) | ((with_reducible refine below_call (by assumption) ?_ ?_); · (first | omega | (simp; done) | (simp; omega))))))) (fun hHeld => ?_)
          clear hK K
          try simp only [Act.put, List.getElem_toArray, List.getElem_cons_succ, List.getElem_cons_zero, List.setIfInBounds_toArray, List.set_cons_zero, List.set_cons_succ]
          (refine wpAnyH_take (i := 13) (v := ?_) rfl (by kernel_rfl) (by kernel_rfl) (by kernel_rfl) (fun _ _ _ h => h) (Or.inl ⟨by rfl, ?_⟩) (by assumption) ?_; rotate_left 1; (focus (intro wz hz; (try dsimp only at hz); (try simp only [List.getElem_toArray, List.getElem_cons_succ, List.getElem_cons_zero]); go_simp; try (with_reducible rfl); done)))
          try simp only [Act.put, List.getElem_toArray, List.getElem_cons_succ, List.getElem_cons_zero, List.setIfInBounds_toArray, List.set_cons_zero, List.set_cons_succ]
          refine wpAnyH_done (by kernel_rfl) ?_ _
          have hqw : ∀ q, (Value.slice aw W.length cw).ownBlock = some q → q < wr.heap.size := fun q hq => (World.ownsRow.lt HW.out q hq).2
          have hoff : Off3 bs (.slice p3 (pushS S 0 ↑y).1.length q3) (.slice p4 (pushS S 0 ↑y).2.1.length q4) (.slice p5 (pushS S 0 ↑y).2.2.length q5) := HO2.out.off HOO.out.1 (by (try simp only [World.size_drew, World.size_alloc]); omega)
          have hqq : ∀ q, (Value.slice aw W.length cw).ownBlock = some q → Off3 q (.slice p3 (pushS S 0 ↑y).1.length q3) (.slice p4 (pushS S 0 ↑y).2.1.length q4) (.slice p5 (pushS S 0 ↑y).2.2.length q5) := fun q hq => HO2.out.off (HOO.out.2 q hq) (by have := hqw q hq; (try simp only [World.size_drew, World.size_alloc]); omega)
          clear hHeld
          have hP : Pushed w (((w2.setCell ⟨wr.heap.size, 0, none⟩ (.slice p3 (pushS S 0 ↑y).1.length q3)).setCell ⟨wr.heap.size, 1, none⟩ (.slice p4 (pushS S 0 ↑y).2.1.length q4)).setCell ⟨wr.heap.size, 2, none⟩ (.slice p5 (pushS S 0 ↑y).2.2.length q5)) w.heap.size bs wr.heap.size (.slice p3 (pushS S 0 ↑y).1.length q3) (.slice p4 (pushS S 0 ↑y).2.1.length q4) (.slice p5 (pushS S 0 ↑y).2.2.length q5) (pushS S 0 ↑y) (.slice p0' S.1.length q0') (.slice p1' S.2.1.length q1') (.slice p2' S.2.2.length q2') S aw cw W := by
            have hbt : Below wr.heap.size wr (((w2.setCell ⟨wr.heap.size, 0, none⟩ (.slice p3 (pushS S 0 ↑y).1.length q3)).setCell ⟨wr.heap.size, 1, none⟩ (.slice p4 (pushS S 0 ↑y).2.1.length q4)).setCell ⟨wr.heap.size, 2, none⟩ (.slice p5 (pushS S 0 ↑y).2.2.length q5)) := by (repeat (first | (with_reducible exact Below.refl _ _) | ((with_reducible refine below_alloc ?_ ?_ _); · (first | omega | (simp; done) | (simp; omega))) | ((with_reducible refine below_setCell ?_ ?_ _); · (first | omega | (simp; done) | (simp; omega))) | (with_reducible refine Below.drew ?_) | (with_reducible refine below_drewN ?_ _) | ((with_reducible refine below_call (by assumption) ?_ ?_); · (first | omega | (simp; done) | (simp; omega)))))
            have hz0 := (Bs.new (nil_state wr.drew) 30).call HB2.out
            rw [World.size_drew] at hz0
            have hox : Off3 wr.heap.size (.slice p3 (pushS S 0 ↑y).1.length q3) (.slice p4 (pushS S 0 ↑y).2.1.length q4) (.slice p5 (pushS S 0 ↑y).2.2.length q5) := HO2.out.off (HSI.out.off_new (by rw [HRR.out.2]; decide) (by rw [HLL.out.1]; simp) (by rw [HLL.out.2]; simp) (Nat.le_refl _)) (by simp)
            exact ⟨hz0.put HI2.out hox, HX.out.call hbt, hoff, by omega, HW.out.call hbt, fun q hq => ⟨hqq q hq, by have := hqw q hq; omega⟩, HB.out.trans (hbt.mono HB.out.size)⟩
          refine gen_exit (fun W' => Pushed w W' w.heap.size bs wr.heap.size (.slice p3 (pushS S 0 ↑y).1.length q3) (.slice p4 (pushS S 0 ↑y).2.1.length q4) (.slice p5 (pushS S 0 ↑y).2.2.length q5) (pushS S 0 ↑y) (.slice p0' S.1.length q0') (.slice p1' S.2.1.length q1') (.slice p2' S.2.2.length q2') S aw cw W) hP (fun wt hP => ?_)
          generalize wr.heap.size = bx at hP ⊢
          clear hqw hoff hqq kx fx zx zy hbw hb2 HI2 HO2 HB2
          obtain ⟨S', hS'⟩ : ∃ s, pushS S 0 ↑y = s := ⟨_, rfl⟩
          obtain ⟨E, hE⟩ : ∃ s, pushE S 0 ↑y = s := ⟨_, rfl⟩
          have hpl := (push_len S 0 ↑y).1
          have hpr := HPR.out
          rw [hS'] at hpl hP hpr
          rw [hE] at hpr
          rw [hS', hE]
          have hHP := HP
          have HPP := Lib.hid hP
          have HSL := Lib.hid (hpl.trans HRR.out.2)
          obtain ⟨⟨f0, f1, f2⟩, fz, -⟩ := id hP.x
          obtain ⟨⟨e0, e1, e2⟩, ez, -⟩ := id hP.s
          have hlx := hP.l
          have hxs := hP.x.lt
          have hPB := hP.b
          have hpz := hPB.size
          have clt : wt.cell? ⟨bl, ol + k, none⟩ = some (.int .u8 x) := (Below.cell hPB (p := ⟨bl, ol + k, none⟩) hbl0).trans CL.out
          clear hP hpl hS' hE HPR
          by_cases hm : (y : Int) ∈ W
          · obtain ⟨d1, d2⟩ := hpr.1 hm
            have HPR2 := Lib.hid d2
            subst d1
            clear hpr d2 clt
            go_wp2_with fail
            go_roundw
            case rel => exact ⟨k + 1, W, S', .slice p3 S'.1.length q3, .slice p4 S'.2.1.length q4, .slice p5 S'.2.2.length q5, by go_num, by omega, by omega, row_far (row_far (row_far HPP.out.v (row_lt HPP.out.v (by omega))) (row_lt HPP.out.v (by omega))) (row_lt HPP.out.v (by omega)), by rw [HPR2.out]; exact HRR.out.1, HSL.out, HPP.out.s.put HPP.out.x.s HPP.out.o, HPP.out.o, fun q hq => (HPP.out.q q hq).1, by have hPB := HPP.out.b; (repeat (first | (with_reducible exact Below.refl _ _) | ((with_reducible refine below_alloc ?_ ?_ _); · (first | omega | (simp; done) | (simp; omega))) | ((with_reducible refine below_setCell ?_ ?_ _); · (first | omega | (simp; done) | (simp; omega))) | (with_reducible refine Below.drew ?_) | (with_reducible refine below_drewN ?_ _) | ((with_reducible refine below_call (by assumption) ?_ ?_); · (first | omega | (simp; done) | (simp; omega))))), by simp only [World.size_setCell]; omega⟩
            case measure => simp [intOf]; omega
          · obtain ⟨d1, d2⟩ := hpr.2 hm
            have HPR2 := Lib.hid d2
            subst d1
            clear hpr d2
            go_wp2_with (at_builtin; (conv => skip); refine stopHere ?_)
            refine And.intro ?_ trivial
            refine wpList_append_own_at _ rfl _ _ 23 rfl (bs + 1) 3 i1 (.int .i64 0) 1 8 Try.underlying23 gi gj0 gj1 gj2 rfl (by decide) _ W.length (W.map (Value.int .i64)) rfl (World.ownsRow.alloc HPP.out.v _) ⟨wt.heap.size, 0, none⟩ 1 1 [.int .i64 y] rfl rfl (cell_one_new _ _ _) (by simp [Value.oneCell']) (by unfold maxLen; omega) (by omega) (by simp; omega) ?_
            intro v' w6 hown' hgr _ hat
            have hb6 : Below (bs + 1) wt w6 := ((Below.refl _ _).alloc (by omega) _).grown hgr (by simp; omega) (fun q hq => (World.ownsRow.lt HPP.out.v q hq).1)
            have hs6 := hb6.size
            have hba : Below wt.heap.size wt (wt.alloc (.cells #[.int .i64 y] 3)) := (Below.refl _ _).alloc (Nat.le_refl _) _
            have hXb := (HPP.out.x.call hba).grown hgr (fun q hq => HPP.out.q q hq)
            have hSb := (HPP.out.s.call hba).grown hgr (fun q hq => ⟨HOO.out.2 q hq, row_lt HPP.out.v (by omega) q hq⟩)
            have hnew := fun g hg => HPP.out.x.s.off_new (g := g) (by rw [HSL.out]; decide) (by rw [(rep_len HPR2.out).1]; simp) (by rw [(rep_len HPR2.out).2]; simp) hg
            have hoff' : ∀ q, v'.ownBlock = some q → Off3 q (.slice p3 S'.1.length q3) (.slice p4 S'.2.1.length q4) (.slice p5 S'.2.2.length q5) := fun q hq => by
              rcases hat with hat | hat
              · exact (HPP.out.q q (hat ▸ hq)).1
              · rw [hat] at hq
                cases hq
                exact hnew _ (by simp)
            have hB6 : Below w.heap.size w w6 := HPP.out.b.trans (hb6.mono (by omega))
            obtain ⟨va, vc, rfl⟩ := row_form hown'
            have hown6 : OwnI w6 (bs + 1) (.slice va (W.length + 1) vc) (W ++ [(y : Int)]) := by
              show World.ownsRow _ _ _ _ _ _ _
              rw [List.length_append, List.map_append]; exact hown'
            obtain ⟨⟨r0, r1, r2⟩, rz, -⟩ := id hXb
            obtain ⟨⟨s0, s1, s2⟩, sz, -⟩ := id hSb
            have H6 := Lib.hid (And.intro hXb (And.intro hSb (And.intro hoff' (And.intro hB6 hown6))))
            clear hb6 hba hXb hSb hnew hoff' hB6 hown6 hown' hgr hat e0 e1 e2 ez f0 f1 f2 fz clt
            go_wp2_with fail
            go_roundw
            case rel =>
              obtain ⟨gXb, gSb, goff, gB6, gown⟩ := H6.out
              exact ⟨k + 1, W ++ [(y : Int)], S', .slice p3 S'.1.length q3, .slice p4 S'.2.1.length q4, .slice p5 S'.2.2.length q5, by go_num, by omega, by rw [List.length_append, List.length_singleton]; omega, row_far (row_far (row_far gown (row_lt gown (by omega))) (row_lt gown (by omega))) (row_lt gown (by omega)), HPR2.out, HSL.out, gSb.put gXb.s HPP.out.o, HPP.out.o, goff, by (repeat (first | (with_reducible exact Below.refl _ _) | ((with_reducible refine below_alloc ?_ ?_ _); · (first | omega | (simp; done) | (simp; omega))) | ((with_reducible refine below_setCell ?_ ?_ _); · (first | omega | (simp; done) | (simp; omega))) | (with_reducible refine Below.drew ?_) | (with_reducible refine below_drewN ?_ _) | ((with_reducible refine below_call (by assumption) ?_ ?_); · (first | omega | (simp; done) | (simp; omega))))), by simp only [World.size_setCell]; omega⟩
            case measure => simp [intOf]; omega
      · obtain rfl : k = l.length := by omega
        have hlw : (W.length : Int) ≤ 40 := by omega
        have hqw : ∀ q, (Value.slice aw W.length cw).ownBlock = some q → q ≠ wr.heap.size := fun q hq => by have := (World.ownsRow.lt hW q hq).2; omega
        have hot := hSI.off_new (g := wr.heap.size) (by rw [hSl]; decide) (by rw [lS2]; simp) (by rw [lS3]; simp) (Nat.le_refl _)
        have hbb := hX.lt
        have hba : Below wr.heap.size wr (wr.alloc (.cells #[.slice p0' S.1.length q0', .slice p1' S.2.1.length q1', .slice p2' S.2.2.length q2'] 30)) := (Below.refl _ _).alloc (Nat.le_refl _) _
        have HF := Lib.hid (show Bs (wr.alloc (.cells #[.slice p0' S.1.length q0', .slice p1' S.2.1.length q1', .slice p2' S.2.2.length q2'] 30)) bs (.slice p0' S.1.length q0') (.slice p1' S.2.1.length q1') (.slice p2' S.2.2.length q2') S ∧ Bs (wr.alloc (.cells #[.slice p0' S.1.length q0', .slice p1' S.2.1.length q1', .slice p2' S.2.2.length q2'] 30)) wr.heap.size (.slice p0' S.1.length q0') (.slice p1' S.2.1.length q1') (.slice p2' S.2.2.length q2') S ∧ OwnI (wr.alloc (.cells #[.slice p0' S.1.length q0', .slice p1' S.2.1.length q1', .slice p2' S.2.2.length q2'] 30)) (bs + 1) (.slice aw W.length cw) W ∧ Below w.heap.size w (wr.alloc (.cells #[.slice p0' S.1.length q0', .slice p1' S.2.1.length q1', .slice p2' S.2.2.length q2'] 30)) from ⟨hX.call hba, Bs.new hSI _, hW.call hba, hB.trans (hba.mono hB.size)⟩)
        have HRR := Lib.hid (And.intro hR (And.intro hSl (And.intro lS2 lS3)))
        clear hX hW hR hSl hO hQ hB hSI lS2 lS3 hba z hWk
        go_wp2_with fail
        refine gen_world (F := fun wt => Bs wt bs (.slice p0' S.1.length q0') (.slice p1' S.2.1.length q1') (.slice p2' S.2.2.length q2') S ∧ Bs wt wr.heap.size (.slice p0' S.1.length q0') (.slice p1' S.2.1.length q1') (.slice p2' S.2.2.length q2') S ∧ OwnI wt (bs + 1) (.slice aw W.length cw) W ∧ Below w.heap.size w wt) HF.out (fun wt hF => ?_)
        clear HF e0 e1 e2
        generalize wr.heap.size = bt at hqw hot hbb hF hz ⊢
        have H9 := Lib.hid (And.intro hF (And.intro hqw hot))
        clear hF hqw hot
        go_loopw [10] (fun jj wr => ∃ (i : Nat) (T : LSt) (un uh ut : Value), jj = .int .i64 i ∧ i ≤ W.length ∧ Rep T [W.drop i ++ W.take i] ∧ T.1.length = 64 ∧ Bs wr bs (.slice p0' S.1.length q0') (.slice p1' S.2.1.length q1') (.slice p2' S.2.2.length q2') S ∧ Bs wr bt un uh ut T ∧ Off3 bt un uh ut ∧ OwnI wr (bs + 1) (.slice aw W.length cw) W ∧ Below w.heap.size w wr) (fun jj _ => W.length - (intOf jj).toNat)
        case atStart => exact ⟨0, S, _, _, _, rfl, Nat.zero_le _, by rw [List.drop_zero, List.take_zero, List.append_nil]; exact HRR.out.1, HRR.out.2.1, H9.out.1.1, H9.out.1.2.1, H9.out.2.2, H9.out.1.2.2.1, H9.out.1.2.2.2⟩
        case round =>
          obtain ⟨i, T, un, uh, ut, rfl, hiW, hR, hTl, hS, hT, hO, hW, hB⟩ := hrel
          obtain ⟨⟨g0, g1, g2⟩, gz, hTI⟩ := id hT
          obtain ⟨⟨pa, na, rfl, -⟩, ⟨pb, nb, rfl, -⟩, ⟨pc, nc, rfl, -⟩⟩ := id hTI
          obtain ⟨lT2, lT3⟩ := rep_len hR
          have hbt := hT.lt
          have hsb := hS.lt
          have hsB := hB.size
          have hiW' : (i : Int) ≤ W.length := by omega
          by_cases hlt : i < W.length
          · have hlt' : (i : Int) < W.length := by omega
            obtain ⟨m1, m2, m3⟩ := turn_one hR hTl hlt
            obtain ⟨pw, cww, hve, hr⟩ := id hW.reads
            cases hve
            obtain ⟨bw, ow, rfl, dw⟩ := hr i hlt
            obtain ⟨y, hy⟩ : ∃ y, W[i] = y := ⟨_, rfl⟩
            rw [hy] at dw m1
            have hbw0 := World.block_lt_of_cell? _ _ dw
            have cf := Lib.hid (fun W' (hv : IsLS W' (.slice pa T.1.length na) (.slice pb T.2.1.length nb) (.slice pc T.2.2.length nc) T) => (show Calls Try.prog 29 #[.agg #[.slice pa T.1.length na, .slice pb T.2.1.length nb, .slice pc T.2.2.length nc], .int .i64 0] W' fun e w' => e = .returned (.int .i64 y) ∧ Below W'.heap.size W' w' by
              have h := front_any _ _ _ T 0 W' hv (by rw [hTl]; decide) (by rw [lT2]; simp) (by rw [lT3]; simp)
              rw [m1] at h
              exact h))
            have ct := Lib.hid (fun W' (hv : IsLS W' (.slice pa T.1.length na) (.slice pb T.2.1.length nb) (.slice pc T.2.2.length nc) T) => turn_any _ _ _ T 0 W' hv (by rw [hTl]; decide) (by rw [lT2]; simp) (by rw [lT3]; simp))
            have hout := Lib.hid (fun w' (h : Below wr.heap.size wr w') => (show w'.cell? ⟨bt, 0, none⟩ = some (.slice pa T.1.length na) ∧ w'.cell? ⟨bt, 1, none⟩ = some (.slice pb T.2.1.length nb) ∧ w'.cell? ⟨bt, 2, none⟩ = some (.slice pc T.2.2.length nc) ∧ w'.cell? ⟨bw, ow + i, none⟩ = some (.int .i64 y) from ⟨(h.cell (p := ⟨bt, 0, none⟩) hbt).trans g0, (h.cell (p := ⟨bt, 1, none⟩) hbt).trans g1, (h.cell (p := ⟨bt, 2, none⟩) hbt).trans g2, (h.cell (p := ⟨bw, ow + i, none⟩) hbw0).trans dw⟩))
            have HN1 := Lib.hid (And.intro m2 m3)
            have HS := Lib.hid hS
            have HT := Lib.hid hT
            have HTI := Lib.hid hTI
            have HO := Lib.hid hO
            have HW := Lib.hid hW
            have HB := Lib.hid hB
            have HZ := Lib.hid gz
            clear hR hTl hS hT hO hW hB g0 g1 g2 gz hTI lT2 lT3 hr dw hy m1 m2 m3
            go_wp2_with fail
            refine wp_region_held_drew (S := fun w' => w'.cell? ⟨bt, 0, none⟩ = some (.slice pa T.1.length na) ∧ w'.cell? ⟨bt, 1, none⟩ = some (.slice pb T.2.1.length nb) ∧ w'.cell? ⟨bt, 2, none⟩ = some (.slice pc T.2.2.length nc) ∧ w'.cell? ⟨bw, ow + i, none⟩ = some (.int .i64 y)) (by kernel_rfl) (hout.out _ (by (repeat (first | (with_reducible exact Below.refl _ _) | ((with_reducible refine below_alloc ?_ ?_ _); · (first | omega | (simp; done) | (simp; omega))) | ((with_reducible refine below_setCell ?_ ?_ _); · (first | omega | (simp; done) | (simp; omega))) | (with_reducible refine Below.drew ?_) | (with_reducible refine below_drewN ?_ _) | ((with_reducible refine below_call (by assumption) ?_ ?_); · (first | omega | (simp; done) | (simp; omega))))))) (fun hHeld => ?_)
            (refine wpAnyH_take (i := 0) (v := ?_) rfl (by kernel_rfl) (by kernel_rfl) (by kernel_rfl) (fun _ _ _ h => h) (Or.inl ⟨by rfl, ?_⟩) (by assumption) ?_; rotate_left 1; (focus (intro wz hz; (try dsimp only at hz); (try simp only [List.getElem_toArray, List.getElem_cons_succ, List.getElem_cons_zero]); go_simp; try (with_reducible rfl); done)))
            try simp only [Act.put, List.getElem_toArray, List.getElem_cons_succ, List.getElem_cons_zero, List.setIfInBounds_toArray, List.set_cons_zero, List.set_cons_succ]
            (refine wpAnyH_take (i := 2) (v := ?_) rfl (by kernel_rfl) (by kernel_rfl) (by kernel_rfl) (fun _ _ _ h => h) (Or.inl ⟨by rfl, ?_⟩) (by assumption) ?_; rotate_left 1; (focus (intro wz hz; (try dsimp only at hz); (try simp only [List.getElem_toArray, List.getElem_cons_succ, List.getElem_cons_zero]); go_simp; try (with_reducible rfl); done)))
            try simp only [Act.put, List.getElem_toArray, List.getElem_cons_succ, List.getElem_cons_zero, List.setIfInBounds_toArray, List.set_cons_zero, List.set_cons_succ]
            (refine wpAnyH_take (i := 3) (v := ?_) rfl (by kernel_rfl) (by kernel_rfl) (by kernel_rfl) (fun _ _ _ h => h) (Or.inl ⟨by rfl, ?_⟩) (by assumption) ?_; rotate_left 1; (focus (intro wz hz; (try dsimp only at hz); (try simp only [List.getElem_toArray, List.getElem_cons_succ, List.getElem_cons_zero]); go_simp; try (with_reducible rfl); done)))
            try simp only [Act.put, List.getElem_toArray, List.getElem_cons_succ, List.getElem_cons_zero, List.setIfInBounds_toArray, List.set_cons_zero, List.set_cons_succ]
            (refine wpAnyH_take (i := 4) (v := ?_) rfl (by kernel_rfl) (by kernel_rfl) (by kernel_rfl) (fun _ _ _ h => h) (Or.inl ⟨by rfl, ?_⟩) (by assumption) ?_; rotate_left 1; (focus (intro wz hz; (try dsimp only at hz); (try simp only [List.getElem_toArray, List.getElem_cons_succ, List.getElem_cons_zero]); go_simp; try (with_reducible rfl); done)))
            try simp only [Act.put, List.getElem_toArray, List.getElem_cons_succ, List.getElem_cons_zero, List.setIfInBounds_toArray, List.set_cons_zero, List.set_cons_succ]
            (refine wpAnyH_take (i := 5) (v := ?_) rfl (by kernel_rfl) (by kernel_rfl) (by kernel_rfl) (fun _ _ _ h => h) (Or.inl ⟨by rfl, ?_⟩) (by assumption) ?_; rotate_left 1; (focus (intro wz hz; (try dsimp only at hz); (try simp only [List.getElem_toArray, List.getElem_cons_succ, List.getElem_cons_zero]); go_simp; try (with_reducible rfl); done)))
            try simp only [Act.put, List.getElem_toArray, List.getElem_cons_succ, List.getElem_cons_zero, List.setIfInBounds_toArray, List.set_cons_zero, List.set_cons_succ]
            refine wpAnyH_ready (rs := [1]) (by kernel_rfl) (by simp) ?_
            refine AllReadyH.cons rfl (fun K hK => ?_) AllReadyH.nil
            (try simp only [List.getElem_toArray, List.getElem_cons_succ, List.getElem_cons_zero])
            go_simp
            go_at_call 29
            refine (cf.out _ (HTI.out.call (by (repeat (first | (with_reducible exact Below.refl _ _) | ((with_reducible refine below_alloc ?_ ?_ _); · (first | omega | (simp; done) | (simp; omega))) | ((with_reducible refine below_setCell ?_ ?_ _); · (first | omega | (simp; done) | (simp; omega))) | (with_reducible refine Below.drew ?_) | (with_reducible refine below_drewN ?_ _) | ((with_reducible refine below_call (by assumption) ?_ ?_); · (first | omega | (simp; done) | (simp; omega)))))))).mono ?_; rintro e w2 ⟨rfl, hb2⟩
            clear hHeld
            refine hK.out _ _ (hout.out _ (by (repeat (first | (with_reducible exact Below.refl _ _) | ((with_reducible refine below_alloc ?_ ?_ _); · (first | omega | (simp; done) | (simp; omega))) | ((with_reducible refine below_setCell ?_ ?_ _); · (first | omega | (simp; done) | (simp; omega))) | (with_reducible refine Below.drew ?_) | (with_reducible refine below_drewN ?_ _) | ((with_reducible refine below_call (by assumption) ?_ ?_); · (first | omega | (simp; done) | (simp; omega))))))) (fun hHeld => ?_)
            clear hK K
            try simp only [Act.put, List.getElem_toArray, List.getElem_cons_succ, List.getElem_cons_zero, List.setIfInBounds_toArray, List.set_cons_zero, List.set_cons_succ]
            (refine wpAnyH_take (i := 6) (v := ?_) rfl (by kernel_rfl) (by kernel_rfl) (by kernel_rfl) (fun _ _ _ h => h) (Or.inl ⟨by rfl, ?_⟩) (by assumption) ?_; rotate_left 1; (focus (intro wz hz; (try dsimp only at hz); (try simp only [List.getElem_toArray, List.getElem_cons_succ, List.getElem_cons_zero]); go_simp; try (with_reducible rfl); done)))
            try simp only [Act.put, List.getElem_toArray, List.getElem_cons_succ, List.getElem_cons_zero, List.setIfInBounds_toArray, List.set_cons_zero, List.set_cons_succ]
            refine wpAnyH_done (by kernel_rfl) ?_ _
            clear hHeld
            have hb18 : Below wr.heap.size wr w2 := by (repeat (first | (with_reducible exact Below.refl _ _) | ((with_reducible refine below_alloc ?_ ?_ _); · (first | omega | (simp; done) | (simp; omega))) | ((with_reducible refine below_setCell ?_ ?_ _); · (first | omega | (simp; done) | (simp; omega))) | (with_reducible refine Below.drew ?_) | (with_reducible refine below_drewN ?_ _) | ((with_reducible refine below_call (by assumption) ?_ ?_); · (first | omega | (simp; done) | (simp; omega)))))
            have zs2 := hb18.size
            obtain ⟨k0, k1, k2, -⟩ := hout.out _ hb18
            clear hb2
            go_wp2_with fail
            refine (ct.out _ (HTI.out.call hb18)).mono ?_; rintro e w3 ⟨xn, xh, xt, rfl, ho, hb3⟩
            have hb33 : Below wr.heap.size wr w3 := (by (repeat (first | (with_reducible exact Below.refl _ _) | ((with_reducible refine below_alloc ?_ ?_ _); · (first | omega | (simp; done) | (simp; omega))) | ((with_reducible refine below_setCell ?_ ?_ _); · (first | omega | (simp; done) | (simp; omega))) | (with_reducible refine Below.drew ?_) | (with_reducible refine below_drewN ?_ _) | ((with_reducible refine below_call (by assumption) ?_ ?_); · (first | omega | (simp; done) | (simp; omega))))))
            have hI3 := ho.rd (HTI.out.call hb33)
            obtain ⟨⟨p3, q3, rfl, -⟩, ⟨p4, q4, rfl, -⟩, ⟨p5, q5, rfl, -⟩⟩ := id hI3
            have HI3 := Lib.hid (And.intro hI3 (And.intro ho hb33))
            obtain ⟨⟨c0, c1, c2⟩, cz, -⟩ := id (HT.out.call hb33)
            have zs3 := hb33.size
            clear k0 k1 k2 hb3 hb33 ho hI3
            go_wp2_with fail
            go_roundw
            case rel =>
              obtain ⟨hI3, ho, hb33⟩ := HI3.out
              have hoff : Off3 bt (.slice p3 (turnS T 0).1.length q3) (.slice p4 (turnS T 0).2.1.length q4) (.slice p5 (turnS T 0).2.2.length q5) := ho.off HO.out (by omega)
              have hq := H9.out.2.1
              have hne : bs ≠ bt := by omega
              have hBB : Below w.heap.size w w3 := HB.out.trans (hb33.mono (by omega))
              exact ⟨i + 1, turnS T 0, _, _, _, by go_num, by omega, HN1.out.2, HN1.out.1, (((HS.out.call hb33).other hne H9.out.2.2).other hne H9.out.2.2).other hne H9.out.2.2, (HT.out.call hb33).put hI3 hoff, hoff, row_far (row_far (row_far (HW.out.call hb33) hq) hq) hq, by (repeat (first | (with_reducible exact Below.refl _ _) | ((with_reducible refine below_alloc ?_ ?_ _); · (first | omega | (simp; done) | (simp; omega))) | ((with_reducible refine below_setCell ?_ ?_ _); · (first | omega | (simp; done) | (simp; omega))) | (with_reducible refine Below.drew ?_) | (with_reducible refine below_drewN ?_ _) | ((with_reducible refine below_call (by assumption) ?_ ?_); · (first | omega | (simp; done) | (simp; omega)))))⟩
            case measure => simp [intOf]; omega
          · obtain rfl : i = W.length := by omega
            rw [List.drop_length, List.take_length, List.nil_append] at hR
            obtain rfl : T = S := Rep.uniq hR HRR.out.1 (by rw [hTl, HRR.out.2.1])
            have hwk := walk_rep hR (by rw [hTl]; decide) (by simp) (i := 0) (by simp)
            replace hwk : walkL T 0 = W := hwk
            have hsame : sameLB T T = true := by unfold sameLB; rw [decide_eq_true rfl, sameIB_self, sameIB_self]; rfl
            have cw := Lib.hid (fun W' vn vh vt (hv : IsLS W' vn vh vt T) => (show Calls Try.prog 25 #[.agg #[vn, vh, vt], .int .i64 0] W' fun e w' => ∃ v, e = .returned v ∧ OwnI w' W'.heap.size v W ∧ Below W'.heap.size W' w' by
              have h := walk4_any vn vh vt T 0 W' hv (by rw [hTl]; decide) (by rw [lT2]; simp) (by rw [lT3]; simp)
              rw [hwk] at h
              exact h))
            have csm := Lib.hid (fun W' vn vh vt un uh ut (hv : IsLS W' vn vh vt T) (hu : IsLS W' un uh ut T) => (show Calls Try.prog 33 #[.agg #[vn, vh, vt], .agg #[un, uh, ut]] W' fun e w' => e = .returned (.bool true) ∧ Below W'.heap.size W' w' by
              have h := same4_any vn vh vt un uh ut T T W' hv hu (by rw [hTl]; decide) (by rw [lT2]; simp) (by rw [lT3]; simp) (by rw [hTl]; decide)
              rw [hsame] at h
              exact h))
            have csi := Lib.hid (fun W' v u (hv : IsI W' v W) (hu : IsI W' u W) => (show Calls Try.prog 24 #[v, u] W' fun e w' => e = .returned (.bool true) ∧ Below W'.heap.size W' w' by
              have h := sameInts_any v u W W W' hv hu (by omega)
              rw [sameIB_self] at h
              exact h))
            obtain ⟨⟨e0, e1, e2⟩, ez, -⟩ := id hS
            have hout := Lib.hid (fun w' (h : Below wr.heap.size wr w') => (show (w'.cell? ⟨bs, 0, none⟩ = some (.slice p0' T.1.length q0') ∧ w'.cell? ⟨bs, 1, none⟩ = some (.slice p1' T.2.1.length q1') ∧ w'.cell? ⟨bs, 2, none⟩ = some (.slice p2' T.2.2.length q2')) ∧ w'.cell? ⟨bt, 0, none⟩ = some (.slice pa T.1.length na) ∧ w'.cell? ⟨bt, 1, none⟩ = some (.slice pb T.2.1.length nb) ∧ w'.cell? ⟨bt, 2, none⟩ = some (.slice pc T.2.2.length nc) from ⟨⟨(h.cell (p := ⟨bs, 0, none⟩) hsb).trans e0, (h.cell (p := ⟨bs, 1, none⟩) hsb).trans e1, (h.cell (p := ⟨bs, 2, none⟩) hsb).trans e2⟩, (h.cell (p := ⟨bt, 0, none⟩) hbt).trans g0, (h.cell (p := ⟨bt, 1, none⟩) hbt).trans g1, (h.cell (p := ⟨bt, 2, none⟩) hbt).trans g2⟩))
            have HS := Lib.hid hS
            have HTI := Lib.hid hTI
            have HW := Lib.hid hW
            have HB := Lib.hid hB
            clear hR hTl hS hT hO hW hB gz hTI lT2 lT3 ez hwk hsame hlt
            go_wp2_with fail
            refine (cw.out _ _ _ _ (HS.out.s.call (by (repeat (first | (with_reducible exact Below.refl _ _) | ((with_reducible refine below_alloc ?_ ?_ _); · (first | omega | (simp; done) | (simp; omega))) | ((with_reducible refine below_setCell ?_ ?_ _); · (first | omega | (simp; done) | (simp; omega))) | (with_reducible refine Below.drew ?_) | (with_reducible refine below_drewN ?_ _) | ((with_reducible refine below_call (by assumption) ?_ ?_); · (first | omega | (simp; done) | (simp; omega)))))))).mono ?_; rintro e w2 ⟨v1, rfl, ho, hb2⟩
            have hB2 : Below wr.heap.size wr w2 := (by (repeat (first | (with_reducible exact Below.refl _ _) | ((with_reducible refine below_alloc ?_ ?_ _); · (first | omega | (simp; done) | (simp; omega))) | ((with_reducible refine below_setCell ?_ ?_ _); · (first | omega | (simp; done) | (simp; omega))) | (with_reducible refine Below.drew ?_) | (with_reducible refine below_drewN ?_ _) | ((with_reducible refine below_call (by assumption) ?_ ?_); · (first | omega | (simp; done) | (simp; omega))))))
            clear e0 e1 e2 g0 g1 g2
            obtain ⟨⟨e0, e1, e2⟩, g0, g1, g2⟩ := hout.out _ hB2
            have z2 := hB2.size
            have H2 := Lib.hid ho.reads
            clear ho hb2
            go_wp2_with fail
            refine (csi.out _ _ _ H2.out (HW.out.call hB2).reads).mono ?_; rintro e w3 ⟨rfl, hb3⟩
            have hB3 : Below wr.heap.size wr w3 := (by (repeat (first | (with_reducible exact Below.refl _ _) | ((with_reducible refine below_alloc ?_ ?_ _); · (first | omega | (simp; done) | (simp; omega))) | ((with_reducible refine below_setCell ?_ ?_ _); · (first | omega | (simp; done) | (simp; omega))) | (with_reducible refine Below.drew ?_) | (with_reducible refine below_drewN ?_ _) | ((with_reducible refine below_call (by assumption) ?_ ?_); · (first | omega | (simp; done) | (simp; omega))))))
            clear e0 e1 e2 g0 g1 g2
            obtain ⟨⟨e0, e1, e2⟩, g0, g1, g2⟩ := hout.out _ hB3
            have z3 := hB3.size
            clear hb3 hB2 z2 H2
            go_wp2_with fail
            refine (cw.out _ _ _ _ (HTI.out.call hB3)).mono ?_; rintro e w4 ⟨v2, rfl, ho, hb4⟩
            have hB4 : Below wr.heap.size wr w4 := (by (repeat (first | (with_reducible exact Below.refl _ _) | ((with_reducible refine below_alloc ?_ ?_ _); · (first | omega | (simp; done) | (simp; omega))) | ((with_reducible refine below_setCell ?_ ?_ _); · (first | omega | (simp; done) | (simp; omega))) | (with_reducible refine Below.drew ?_) | (with_reducible refine below_drewN ?_ _) | ((with_reducible refine below_call (by assumption) ?_ ?_); · (first | omega | (simp; done) | (simp; omega))))))
            clear e0 e1 e2 g0 g1 g2
            obtain ⟨⟨e0, e1, e2⟩, g0, g1, g2⟩ := hout.out _ hB4
            have z4 := hB4.size
            have H4 := Lib.hid ho.reads
            clear ho hb4 hB3 z3
            go_wp2_with fail
            refine (csi.out _ _ _ H4.out (HW.out.call hB4).reads).mono ?_; rintro e w5 ⟨rfl, hb5⟩
            have hB5 : Below wr.heap.size wr w5 := (by (repeat (first | (with_reducible exact Below.refl _ _) | ((with_reducible refine below_alloc ?_ ?_ _); · (first | omega | (simp; done) | (simp; omega))) | ((with_reducible refine below_setCell ?_ ?_ _); · (first | omega | (simp; done) | (simp; omega))) | (with_reducible refine Below.drew ?_) | (with_reducible refine below_drewN ?_ _) | ((with_reducible refine below_call (by assumption) ?_ ?_); · (first | omega | (simp; done) | (simp; omega))))))
            clear e0 e1 e2 g0 g1 g2
            obtain ⟨⟨e0, e1, e2⟩, g0, g1, g2⟩ := hout.out _ hB5
            have z5 := hB5.size
            clear hb5 hB4 z4 H4
            go_wp2_with fail
            refine (csm.out _ _ _ _ _ _ _ (HTI.out.call hB5) (HS.out.s.call hB5)).mono ?_; rintro e w6 ⟨rfl, hb6⟩
            have hB6 : Below wr.heap.size wr w6 := (by (repeat (first | (with_reducible exact Below.refl _ _) | ((with_reducible refine below_alloc ?_ ?_ _); · (first | omega | (simp; done) | (simp; omega))) | ((with_reducible refine below_setCell ?_ ?_ _); · (first | omega | (simp; done) | (simp; omega))) | (with_reducible refine Below.drew ?_) | (with_reducible refine below_drewN ?_ _) | ((with_reducible refine below_call (by assumption) ?_ ?_); · (first | omega | (simp; done) | (simp; omega))))))
            have z6 := hB6.size
            clear hb6 hB5 z5 e0 e1 e2 g0 g1 g2
            go_wp2_with fail
            refine (awake_any _).mono ?_; rintro e w7 ⟨rfl, hb7⟩
            have hB7 : Below wr.heap.size wr w7 := (by (repeat (first | (with_reducible exact Below.refl _ _) | ((with_reducible refine below_alloc ?_ ?_ _); · (first | omega | (simp; done) | (simp; omega))) | ((with_reducible refine below_setCell ?_ ?_ _); · (first | omega | (simp; done) | (simp; omega))) | (with_reducible refine Below.drew ?_) | (with_reducible refine below_drewN ?_ _) | ((with_reducible refine below_call (by assumption) ?_ ?_); · (first | omega | (simp; done) | (simp; omega))))))
            clear hb7 hB6
            go_wp2_with fail
            go_ret
            exact ⟨rfl, HB.out.trans ((show Below wr.heap.size wr _ by (repeat (first | (with_reducible exact Below.refl _ _) | ((with_reducible refine below_alloc ?_ ?_ _); · (first | omega | (simp; done) | (simp; omega))) | ((with_reducible refine below_setCell ?_ ?_ _); · (first | omega | (simp; done) | (simp; omega))) | (with_reducible refine Below.drew ?_) | (with_reducible refine below_drewN ?_ _) | ((with_reducible refine below_call (by assumption) ?_ ?_); · (first | omega | (simp; done) | (simp; omega)))))).mono HB.out.size)⟩

set_option maxRecDepth 100000 in
theorem corder_lifted (os : Os) (started : os.Started) (H : Type) (enc : TypeId × Value → H) :
    ReturnsInHanded {} Try.checked os 6 .any (Rows.chainOrderSpec.pre6 enc Try.prog Try.f6 Rows.chainOrderRow.domain false) (Rows.chainOrderSpec.post enc Try.prog Try.f6 false true false false) := by
  refine returnsInHanded_of_change (C := Try.checked) own started (by kernel_rfl) Try.func6
    (ChangeSpec.witness6 (enc := enc) (C := Try.checked) false ⟨#[], #[.slice none 0 0], []⟩ 8 (by kernel_rfl) (by kernel_rfl) (by kernel_rfl) (by kernel_rfl)) ?_
  intro W base args ds gs before hval0 hW hcnd _
  have hval : ∀ (j : Nat) t v, Try.f6.params[j]? = some t → args[j]? = some v → Value.okWide Try.prog W .any base t v := hval0
  have hW' := hW
  obtain ⟨p, q, hA0, hV, rfl, hfz, hnd⟩ := hW
  have hA : DataW.TrodAll enc Try.prog W 0 (fun _ => true) true Try.f6.params.toList args.toList ds p := hA0
  rw [Try.params6] at hA hval
  obtain ⟨v0, vs0, d0, ds0, p0, q0, hargs, rfl, rfl, h0, r0⟩ := trodAll_cons hA
  obtain ⟨rfl, rfl, rfl⟩ := trodAll_nil r0
  obtain rfl : args = #[v0] := by cases args; simp_all
  obtain ⟨rfl, rfl⟩ := trodVars_none hV
  obtain ⟨l, hl, hln, hls⟩ := open_nums_k Try.underlying60 Try.underlying5 (by kernel_rfl) (hval 0 60 v0 rfl rfl) h0
  refine (corder_walk v0 l W hl hln (fun x hx => by have := bounds_u8 (hls x hx); omega)).mono fun e W' ⟨he, hb⟩ => ?_
  subst he
  exact ⟨_, rfl, law_post rfl rfl Try.underlying4 (by kernel_rfl) rfl hW' hb⟩
theorem corder_holds : Rows.ChainOrderSaid :=
  OpenClaim.holds_of_wide 6 Try.f6 rfl rfl rfl rfl rfl rfl rfl ⟨rfl, rfl, rfl, rfl, rfl⟩ rfl rfl rfl rfl rfl (by kernel_rfl) Try.func6 (by kernel_rfl)
    (of_decide_eq_true (by kernel_rfl)) (by unfold Func.isWrapper; first | (rw [if_pos (by decide +kernel)]; kernel_rfl) | (rw [if_neg (by decide +kernel)]; exact ⟨rfl, rfl⟩))
    (fun os started H enc _ => corder_lifted os started H enc)
end Go.Proofs.Ytmdkkagpahoapaa
