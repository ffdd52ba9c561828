/- Layer 16, the program's: Run. -/
import Derived.Test.YtjnonngnkkdmdaaP16C
namespace Go.Proofs.Ytjnonngnkkdmdaa
open Go.RowKit
set_option linter.unusedVariables false
set_option linter.unusedSimpArgs false

/-- the levels told so far, and zeros behind them -/
def halfL (c : Lc) (l : List Int) (k : Nat) : List Int := runL c (l.take k) 1 newLv ++ List.replicate (l.length - k) 0
theorem halfL_len {c : Lc} {l : List Int} {k : Nat} (h : k ≤ l.length) : (halfL c l k).length = l.length := by
  unfold halfL
  rw [List.length_append, runL_len, List.length_take, List.length_replicate]
  omega
theorem halfL_next {c : Lc} {l : List Int} {k : Nat} (h : k < l.length) : (halfL c l k).set k (endL c (l.take (k + 1)) 1 newLv).l = halfL c l (k + 1) := by
  unfold halfL
  have e : (runL c (l.take k) 1 newLv).length = k := by rw [runL_len, List.length_take]; omega
  rw [List.set_append_right _ _ (by omega), e, Nat.sub_self, show l.length - k = (l.length - (k + 1)) + 1 by omega, List.replicate_succ, List.set_cons_zero, List.take_succ_eq_append_getElem h, runL_snoc]
  simp
theorem halfL_all (c : Lc) (l : List Int) : halfL c l l.length = runL c l 1 newLv := by
  unfold halfL
  rw [Nat.sub_self, List.replicate_zero, List.append_nil, List.take_length]
theorem made_intsL (n : Nat) : (madeCells #[Value.int .i64 0] n).toList = (List.replicate n (0 : Int)).map (Value.int .i64) := by
  apply List.ext_getElem?
  intro j
  by_cases hj : j < n
  · rw [List.getElem?_eq_getElem (by rw [Array.length_toList, size_madeCells]; exact hj), List.getElem?_eq_getElem (by rw [List.length_map, List.length_replicate]; exact hj)]
    simp [madeCells, Nat.mod_one]
  · rw [List.getElem?_eq_none (by rw [Array.length_toList, size_madeCells]; omega), List.getElem?_eq_none (by rw [List.length_map, List.length_replicate]; omega)]
theorem row_set {te : TypeId} {z k : Nat} {v : Value} {xs : List Value} {B : Nat} {w : World} {q o : Nat} {u : Value} (h : w.ownsRow B te z v k xs) (hq : v.ownBlock ≠ some q) : (w.setCell ⟨q, o, none⟩ u).ownsRow B te z v k xs := by
  obtain ⟨h1, h2⟩ := h
  refine ⟨h1, ?_⟩
  rcases h2 with h2 | ⟨g, cap, cur, hv, hB, hg, r⟩
  · exact .inl h2
  · exact .inr ⟨g, cap, cur, hv, hB, (Below.heap_setCell _ _ _ g (by rintro rfl; exact hq (by rw [hv]; rfl))).trans hg, r⟩
theorem own_half {c : Lc} {l : List Int} {k : Nat} {W : World} {r : Nat} {v : Value} (hk : k ≤ l.length) : OwnI W r v (halfL c l k) ↔ W.ownsRow r 3 1 v l.length ((halfL c l k).map (Value.int .i64)) := by
  unfold OwnI
  rw [halfL_len hk]
/-- the conf, the levels told, and the state -/
def Rk16 (w W : World) (r q : Nat) (c : Lc) (l : List Int) (k : Nat) (s : Ls) : Prop := Cf7 W w.heap.size c ∧ Rs3 W q s ∧ OwnI W r (.slice (some ⟨r, 0, none⟩) l.length l.length) (halfL c l k) ∧ Below w.heap.size w W ∧ w.heap.size < q ∧ q < r ∧ r < W.heap.size
theorem Rk16.call {w W w1 : World} {r q k : Nat} {c : Lc} {l : List Int} {s : Ls} (h : Rk16 w W r q c l k s) (hb : Below W.heap.size W w1) : Rk16 w w1 r q c l k s :=
  ⟨h.1.call hb, h.2.1.call hb, h.2.2.1.call hb, h.2.2.2.1.trans (hb.mono h.2.2.2.1.size), h.2.2.2.2.1, h.2.2.2.2.2.1, Nat.lt_of_lt_of_le h.2.2.2.2.2.2 hb.size⟩
theorem Rk16.put {w W : World} {r q k : Nat} {c : Lc} {l : List Int} {s : Ls} (h : Rk16 w W r q c l k s) (hk : k < l.length) (s2 : Ls) (hs : s2 = endL c (l.take (k + 1)) 1 newLv) :
    Rk16 w ((((W.setCell ⟨q, 0, none⟩ (.int .i64 s2.l)).setCell ⟨q, 1, none⟩ (.int .i64 s2.s)).setCell ⟨q, 2, none⟩ (.int .i64 s2.w)).setCell ⟨r, k, none⟩ (.int .i64 s2.l)) r q c l (k + 1) s2 := by
  obtain ⟨⟨x0, x1, x2, x3, x4, x5, x6⟩, ⟨⟨y0, y1, y2⟩, g0, g1, g2⟩, HO, hB, h1, h2, h3⟩ := h
  have n1 : w.heap.size ≠ q := by omega
  have n2 : q ≠ w.heap.size := by omega
  have n3 : r ≠ w.heap.size := by omega
  have n4 : w.heap.size ≠ r := by omega
  have n5 : r ≠ q := by omega
  have n6 : q ≠ r := by omega
  have hO := (own_half (by omega)).1 HO
  have hq : (Value.slice (some ⟨r, 0, none⟩) l.length l.length).ownBlock ≠ some q := fun h => n5 (by cases h; rfl)
  have hO3 := row_set (o := 2) (u := .int .i64 s2.w) (row_set (o := 1) (u := .int .i64 s2.s) (row_set (o := 0) (u := .int .i64 s2.l) hO hq) hq) hq
  refine ⟨by simp [Cf7, go_sem, *], by simp [Rs3, St3, go_sem, *], ?_, (((hB.setCell (by simp; omega) _).setCell (by simp; omega) _).setCell (by simp; omega) _).setCell (by simp; omega) _, h1, h2, by simpa using h3⟩
  rw [own_half (by omega), ← halfL_next hk, List.map_set, ← hs]
  exact (hO3.stored _ _).1
set_option maxRecDepth 100000 in
set_option maxHeartbeats 8000000 in
theorem lprun_any (c : Lc) (v : Value) (l : List Int) (w : World) (hv : IsI w v l) (hl : l.length ≤ 1000000) :
    Calls Try.prog 19 #[cfV c, v] w fun e w' => ∃ o, e = .returned o ∧ OwnI w' w.heap.size o (toldL c l) ∧ Below w.heap.size w w' := by
  obtain ⟨p, cap, rfl, hp⟩ := hv
  have HP := Lib.hid hp
  have cc := Lib.hid (fun W => lpcheck_any c W)
  have cn := Lib.hid (fun W => lpnew_any W)
  obtain ⟨i1, hi1, hk0, hk1, hk2⟩ := info_parts info_int
  obtain ⟨M, hM⟩ : ∃ M, M = madeCells (Value.int .i64 0).cells (l.length * i1.size) := ⟨_, rfl⟩
  have hM2 : M.toList = (halfL c l 0).map (Value.int .i64) := by
    rw [hM, hk1, Nat.mul_one]
    unfold halfL
    rw [List.take_zero, Nat.sub_zero]
    exact made_intsL l.length
  have hM3 : M.size = l.length * 1 := by rw [hM, hk1, size_madeCells]
  have hmk : ∀ W : World, (Instr.makeSlice 43 (.int .i64 (l.length : Int)) (.int .i64 (l.length : Int))).run Try.prog W = .ok (.slice (some ⟨W.heap.size, 0, none⟩) l.length l.length) (W.alloc (.cells M 3)) := fun W => by
    have h := run_make (P := Try.prog) W 43 3 i1 (.int .i64 0) Try.underlying43 hi1 hk0 .i64 .i64 (l.length : Int) (l.length : Int) (by omega) (by omega) (by rw [hk2]; omega) (by omega)
    simp only [Int.toNat_natCast] at h
    rw [← hM] at h
    exact h
  have Hst := Lib.hid (fun W : World => show (W.alloc (.cells M 3)).ownsRow W.heap.size 3 1 (.slice (some ⟨W.heap.size, 0, none⟩) l.length l.length) l.length ((halfL c l 0).map (Value.int .i64)) from by
    rw [← hM2]
    exact World.ownsRow_lit W M l.length (Nat.le_refl _) (by unfold maxLen; omega) hM3)
  clear hp hM hM2 hM3
  simp only [cfV, lsV] at *
  go_enter Try.func19, Try.ntmps19
  go_upto_region 1 with fail
  refine gen_world (F := fun W => Cf7 W w.heap.size c ∧ Below w.heap.size w W) ⟨by simp [Cf7, go_sem], by (repeat (first | (with_reducible exact Below.refl _ _) | ((with_reducible refine below_alloc ?_ ?_ _); · (first | omega | (simp; done) | (simp; omega))) | ((with_reducible refine below_setCell ?_ ?_ _); · (first | omega | (simp; done) | (simp; omega))) | (with_reducible refine Below.drew ?_) | (with_reducible refine below_drewN ?_ _) | ((with_reducible refine below_call (by assumption) ?_ ?_); · (first | omega | (simp; done) | (simp; omega)))))⟩ (fun W T => ?_)
  obtain ⟨HC, hB⟩ := T
  have HCH := Lib.hid HC
  obtain ⟨x0, x1, x2, x3, x4, x5, x6⟩ := HC
  by_cases hc : chkLv c = 0
  case neg =>
    have HV : Hid (toldL c l = []) := Lib.hid (if_neg hc)
    generalize chkLv c = ce at cc hc
    have hce : (ce != 0) = true := by simp [hc]
    clear hc hmk
    go_wp2_with fail
    refine (cc.out _).mono ?_; rintro e w2 ⟨rfl, hb2⟩
    go_wp2
    go_ret
    exact ⟨_, rfl, by rw [show toldL c l = _ from HV.out]; exact OwnI.nil _ _, hB.trans (hb2.mono hB.size)⟩
  have HV : Hid (toldL c l = runL c l 1 newLv) := Lib.hid (if_pos hc)
  rw [hc] at cc
  clear hc
  go_wp2_with fail
  refine (cc.out _).mono ?_; rintro e w2 ⟨rfl, hb2⟩
  have HC2 := Lib.hid (HCH.out.call hb2)
  have HB2 := Lib.hid (hB.trans (hb2.mono hB.size))
  clear x0 x1 x2 x3 x4 x5 x6 cc HCH hb2 hB
  go_wp2_with fail
  refine (cn.out _).mono ?_; rintro e w3 ⟨rfl, hb3⟩
  go_upto_region 5 with fail
  have hr1 : w.heap.size < w3.heap.size := by have := hb3.size; have := HC2.out.lt; omega
  have hB3 := Lib.hid (HB2.out.trans (hb3.mono HB2.out.size))
  refine gen_world (F := fun W => Rk16 w W (w3.heap.size + 1) w3.heap.size c l 0 newLv) ?_ (fun W T => ?_)
  · have hba : Below w3.heap.size w3 (w3.alloc (.cells #[.int .i64 newLv.l, .int .i64 newLv.s, .int .i64 newLv.w] 29)) := below_alloc (Nat.le_refl _) (Below.refl _ _) _
    have hO := (own_half (c := c) (l := l) (Nat.zero_le _)).2 (Hst.out (w3.alloc (.cells #[.int .i64 newLv.l, .int .i64 newLv.s, .int .i64 newLv.w] 29)))
    have hbc : Below (w3.alloc (.cells #[.int .i64 newLv.l, .int .i64 newLv.s, .int .i64 newLv.w] 29)).heap.size (w3.alloc (.cells #[.int .i64 newLv.l, .int .i64 newLv.s, .int .i64 newLv.w] 29)) ((w3.alloc (.cells #[.int .i64 newLv.l, .int .i64 newLv.s, .int .i64 newLv.w] 29)).alloc (.cells M 3)) := below_alloc (Nat.le_refl _) (Below.refl _ _) _
    simp only [World.size_alloc] at hO
    exact ⟨((HC2.out.call hb3).call hba).call hbc, by simp [Rs3, St3, go_sem], hO, hB3.out.trans ((hba.trans (hbc.mono hba.size)).mono hB3.out.size), hr1, by omega, by simp⟩
  have HT := Lib.hid T
  clear T hmk Hst HC2 HB2 cn hb3 hi1 hk0 hk1 hk2 hr1 hB3
  generalize hrq : w3.heap.size + 1 = r at *
  clear hrq
  generalize w3.heap.size = q at *
  go_wp2
  go_loopw [18] (fun i wr => ∃ k : Nat, i = .int .i64 k ∧ k ≤ l.length ∧ Hid (Rk16 w wr r q c l k (endL c (l.take k) 1 newLv))) (fun i _ => l.length - (intOf i).toNat)
  case atStart => exact ⟨0, rfl, Nat.zero_le _, HT⟩
  case round =>
    clear HT
    obtain ⟨k, rfl, hk, HT⟩ := hrel
    by_cases hlt : k < l.length
    · have hlt' : (k : Int) < l.length := by omega
      have hen := Lib.hid (endL_snoc c l[k] (l.take k) 1 newLv)
      have htk := Lib.hid (List.take_succ_eq_append_getElem hlt)
      obtain ⟨b1, o1, rfl, d1⟩ := HP.out k hlt
      have hb1 : b1 < w.heap.size := World.block_lt_of_cell? _ _ d1
      have hw : IntKind.i64.wrap ((k : Int) + 1) = ((k + 1 : Nat) : Int) := by rw [IntWalk.i64_in _ (by omega)]; omega
      generalize hx : l[k] = x at d1 hen htk
      have hk1 : (1 : Int) + ((l.take k).length : Int) = ((k + 1 : Nat) : Int) := by rw [List.length_take]; omega
      rw [hk1] at hen
      generalize hs : endL c (l.take k) 1 newLv = s at HT hen
      have c0 := Lib.hid (fun W => lpstep_any c s x ((k + 1 : Nat) : Int) W)
      have hst : Hid (stpL c s x ((k + 1 : Nat) : Int) = endL c (l.take (k + 1)) 1 newLv) := Lib.hid (by rw [htk.out, hen.out])
      rw [hst.out] at c0
      generalize hs2 : endL c (l.take (k + 1)) 1 newLv = s2 at c0 hst
      simp only [cfV, lsV] at c0
      obtain ⟨⟨x0, x1, x2, x3, x4, x5, x6⟩, ⟨⟨y0, y1, y2⟩, g0, g1, g2⟩, -, hB, -, -, -⟩ := HT.out
      have d2 := (hB.cell (p := ⟨b1, o1 + k, none⟩) hb1).trans d1
      go_wp2_with fail
      refine (c0.out _).mono ?_; rintro e w4 ⟨rfl, hb4⟩
      clear x0 x1 x2 x3 x4 x5 x6 y0 y1 y2 g0 g1 g2 hB d2
      have HT2 := Lib.hid (HT.out.call hb4)
      obtain ⟨⟨x0, x1, x2, x3, x4, x5, x6⟩, ⟨⟨y0, y1, y2⟩, g0, g1, g2⟩, HO, hB, n1, n2, n3⟩ := HT2.out
      have hO := (own_half (by omega)).1 HO
      have hf : ∀ j, w4.frozen? ⟨r, j, none⟩ = false := fun j => hO.frozenAt j
      obtain ⟨a0, e0⟩ : ∃ u, w4.cell? ⟨r, k, none⟩ = some u := ⟨_, (hO.cellAt k (by omega)).trans (List.getElem?_eq_getElem (by rw [List.length_map, halfL_len (by omega)]; exact hlt))⟩
      have m1 : r ≠ q := by omega
      have m2 : q ≠ r := by omega
      clear HO hO hB hb4 hen htk HT
      go_wp2
      go_roundw
      case rel => exact ⟨k + 1, by go_num, by omega, Lib.hid (by rw [hs2]; exact HT2.out.put hlt s2 hs2.symm)⟩
      case measure => simp [intOf]; omega
    · obtain rfl : k = l.length := by omega
      obtain ⟨-, -, HO, hB, n1, -, -⟩ := HT.out
      rw [halfL_all] at HO
      go_wp2
      go_ret
      exact ⟨_, rfl, by rw [show toldL c l = _ from HV.out]; exact HO.mono (by have := HT.out.2.2.2.2.2.1; omega), hB⟩
end Go.Proofs.Ytjnonngnkkdmdaa
