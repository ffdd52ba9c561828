/- DeframeBack: stanzas that are encoded are told, all of them, and nothing is left, however they come: the statement holds for every input. No condition. -/
import Derived.Test.YtackinamkibmlaaDoorD12W
import Derived.Test.YtackinamkibmlaaDoorLawMax
import Derived.Test.YtackinamkibmlaaDoorLawOpen12
namespace Go.Proofs.YtackinamkibmlaaDoor
open Go.RowKit Go.ChangeShapes Go.WideShapes Go.ChangeAt
set_option linter.unusedVariables false
set_option linter.unusedSimpArgs false

/-- those that may be said -/
def fltS (l : List St) : List St := l.filter (fun x => decide (chkS x = 0))
theorem flt_ok (l : List St) : ∀ x ∈ fltS l, chkS x = 0 := by
  intro x hx
  have := (List.mem_filter.1 hx).2
  simpa using this
theorem flt_next {l : List St} {k : Nat} (hk : k < l.length) : fltS (l.take (k + 1)) = if chkS l[k] = 0 then fltS (l.take k) ++ [l[k]] else fltS (l.take k) := by
  unfold fltS
  rw [List.take_succ_eq_append_getElem hk, List.filter_append]
  by_cases h : chkS l[k] = 0
  · rw [if_pos h]
    simp [h]
  · rw [if_neg h]
    simp [h]
theorem flt_len (l : List St) : (fltS l).length ≤ l.length := List.length_filter_le _ _
theorem flat_max : ∀ {fs : List ByteArray}, (∀ s ∈ fs, okF s) → (fs.flatMap frmB).length ≤ 130 * fs.length
  | [], _ => Nat.le_refl _
  | s :: fs, h => by
    have h1 := (h s (List.mem_cons_self ..)).2
    have := flat_max (fs := fs) (fun t ht => h t (List.mem_cons_of_mem _ ht))
    rw [List.flatMap_cons, List.length_append, frmB_len, List.length_cons]
    omega
theorem enT_size {w : List St} (h : ∀ x ∈ w, chkS x = 0) : (enT w).size ≤ 130 * w.length := by
  rw [list_sz, en_data h]
  have := flat_max (en_okF h)
  rw [List.length_map] at this
  exact this
def lgtB (x : St) : Bool := decide (x.u.size ≤ 100) && (decide (x.r.size ≤ 100) && decide (x.m.size ≤ 100))
theorem lgt_sml {x : St} (h : lgtB x = true) : Sml x := by
  simp only [lgtB, Bool.and_eq_true, decide_eq_true_eq] at h
  exact ⟨by omega, by omega, by omega⟩
theorem row3_new {W w1 : World} {x y z : Value} {t : TypeId} (hb : Below (W.alloc (.cells #[x, y, z] t)).drew.heap.size (W.alloc (.cells #[x, y, z] t)).drew w1) : Row3 w1 W.heap.size x y z :=
  Row3.call (by simp [Row3, go_sem]) hb (by simp)
/-- one step: as many bytes more as are needed -/
theorem back_one (W0 : List St) (h : ∀ x ∈ W0, chkS x = 0) (hw : W0.length ≤ 12) (a : Nat) (ha : a < (enT W0).size) :
    ∃ k c : Nat, needD (finD ((enT W0).data.toList.take a)) = k ∧ 1 ≤ k ∧ a + k ≤ (enT W0).size ∧
      (pr ((enT W0).data.toList.take (a + k))).1.length = (pr ((enT W0).data.toList.take a)).1.length + c ∧ (pr ((enT W0).data.toList.take a)).1.length + c ≤ W0.length ∧
      ∀ W, Tabs9 W → Calls Tryd.prog 6 #[dsV (finD ((enT W0).data.toList.take a)), .string ((enT W0).extract a (a + k))] W fun e w' => ∃ v, e = .returned (.tuple #[dsV (finD ((enT W0).data.toList.take (a + k))), v]) ∧ OwnR 45 9 itC w' W.heap.size v (((W0.drop (pr ((enT W0).data.toList.take a)).1.length).take c).map (fun x => (x, 0))) ∧ Below W.heap.size W w' := by
  have hs := enT_size h
  obtain ⟨s, hs'⟩ : ∃ s, enT W0 = s := ⟨_, rfl⟩
  rw [hs'] at ha hs ⊢
  have hsl : s.data.toList.length = s.size := (list_sz s).symm
  have e1 : (enT W0).data.toList = s.data.toList.take a ++ s.data.toList.drop a := by rw [hs', List.take_append_drop]
  have ht : s.data.toList.drop a ≠ [] := by
    intro e
    have := congrArg List.length e
    rw [List.length_drop, hsl] at this
    simp at this
    omega
  obtain ⟨n1, n2⟩ := back_need h e1 ht
  rw [List.length_drop, hsl] at n2
  obtain ⟨k, hk⟩ : ∃ k : Nat, needD (finD (s.data.toList.take a)) = k := ⟨(needD (finD (s.data.toList.take a))).toNat, by omega⟩
  have hak : a + k ≤ s.size := by omega
  have hx : (s.extract a (a + k)).data.toList = (s.data.toList.drop a).take k := by
    rw [ByteArray.data_extract]
    simp only [Array.toList_extract, List.extract_eq_take_drop]
    rw [show a + k - a = k by omega]
  have htk : s.data.toList.take a ++ (s.data.toList.drop a).take k = s.data.toList.take (a + k) := by
    rw [List.take_add]
  have e2 : (enT W0).data.toList = s.data.toList.take a ++ ((s.data.toList.drop a).take k ++ (s.data.toList.drop a).drop k) := by rw [List.take_append_drop k (s.data.toList.drop a)]; exact e1
  have hbd : (s.data.toList.take a ++ (s.data.toList.drop a).take k).length ≤ 1000000 := by
    rw [htk, List.length_take]
    omega
  obtain ⟨b1, b2, b3, b4⟩ := back_step h e2 hbd
  rw [htk] at b1 b3 b4
  refine ⟨k, (txL (finD (s.data.toList.take a)) ((s.data.toList.drop a).take k)).length, hk, by omega, hak, b3, by omega, fun W hT => ?_⟩
  have hf := finD_size (s.data.toList.take a)
  rw [List.length_take] at hf
  have := dfeed_any (finD (s.data.toList.take a)) (s.extract a (a + k)) W hT (by omega) (by simp; omega)
  rw [hx, b1, b2] at this
  exact this
set_option maxRecDepth 100000 in
set_option maxHeartbeats 8000000 in
theorem dback_walk (v : Value) (l : List St) (w : World) (hT : Tabs9 w) (hv : IsR 8 stC w v l) :
    Calls Tryd.prog 4 #[v] w fun e w' => e = .returned (.bool true) ∧ Below w.heap.size w w' := by
  have aw : Hid (∀ W, Below w.heap.size w W → Calls Tryd.prog 5 #[] W fun e w' => e = .returned (.bool true) ∧ Below W.heap.size W w') := Lib.hid (fun W hb => awake_any W (hT.call hb))
  obtain ⟨p, cap, rfl, hpn, hp⟩ := hv
  have HP := Lib.hid hp
  clear hp hpn
  by_cases hl : l.length ≤ 12
  case neg =>
    have hl' : (12 : Int) < l.length := by omega
    clear hl
    go_enter Tryd.func4, Tryd.ntmps4
    go_wp2_with fail
    refine (aw.out _ (Below.refl _ _)).mono ?_; rintro e w1 ⟨rfl, hb1⟩
    go_wp2
    go_ret
    exact ⟨rfl, hb1⟩
  have hl' : ¬ (12 : Int) < l.length := by omega
  go_enter Tryd.func4, Tryd.ntmps4
  go_wp2
  go_loopw [3, 4] (fun o i wr => ∃ k : Nat, i = .int .i64 k ∧ k ≤ l.length ∧ OwnR 40 8 stC wr w.heap.size o (fltS (l.take k)) ∧ Below w.heap.size w wr) (fun _ i _ => l.length - (intOf i).toNat)
  case atStart => exact ⟨0, rfl, Nat.zero_le _, OwnR.nil _ _ _ _ _, Below.refl _ _⟩
  case round =>
    obtain ⟨k, rfl, hk, ho, hB⟩ := hrel
    have HO := Lib.hid ho
    have hz := hB.size
    have hfl := flt_len (l.take k)
    rw [List.length_take] at hfl
    obtain ⟨ao, cp, hve⟩ := ho.form
    subst hve
    clear ho
    by_cases hlt : k < l.length
    · have hlt' : (k : Int) < l.length := by omega
      obtain ⟨b1, o1, rfl, g1⟩ := HP.out k hlt
      have HN := Lib.hid (flt_next hlt)
      obtain ⟨x, hx⟩ : ∃ x, l[k] = x := ⟨_, rfl⟩
      rw [hx] at g1 HN
      have cell : Hid (∀ W, Below w.heap.size w W → ∀ c u, (stC x)[c]? = some u → W.cell? ⟨b1, o1 + k * 8 + c, none⟩ = some u) := Lib.hid (fun W hb c u hu => (hb.cell (p := ⟨b1, o1 + k * 8 + c, none⟩) (World.block_lt_of_cell? _ _ (g1 c u hu))).trans (g1 c u hu))
      have cL := Lib.hid (fun W => light_any x W)
      have hlg : (decide (x.u.size ≤ 100) && (decide (x.r.size ≤ 100) && decide (x.m.size ≤ 100))) = lgtB x := rfl
      rw [hlg] at cL
      have cC := Lib.hid (fun (hx : Sml x) W (hb : Below w.heap.size w W) => scheck_any x W (hT.call hb) hx)
      simp only [stzV] at cL cC
      have lb1 : b1 < w.heap.size := World.block_lt_of_cell? _ _ (g1 0 _ rfl)
      clear g1 hx hlg
      obtain ⟨c0, c1, c2, c3, c4, c5, c6, c7⟩ := stC_at (cell.out wr hB)
      by_cases hlx : lgtB x = true
      · have hs := lgt_sml hlx
        rw [hlx] at cL
        go_wp2_with fail
        refine (cL.out _).mono ?_; rintro e w1 ⟨rfl, hb1⟩
        have B1 := below_call hb1 hB.size hB
        clear c0 c1 c2 c3 c4 c5 c6 c7
        obtain ⟨c0, c1, c2, c3, c4, c5, c6, c7⟩ := stC_at (cell.out w1 B1)
        go_wp2_with fail
        refine (cC.out hs _ B1).mono ?_; rintro e w2 ⟨rfl, hb2⟩
        have B2 := below_call hb2 B1.size B1
        have z2 := B2.size
        have HO2 := Lib.hid ((HO.out.call hb1).call hb2)
        clear c0 c1 c2 c3 c4 c5 c6 c7 HO hb1 hb2
        obtain ⟨c0, c1, c2, c3, c4, c5, c6, c7⟩ := stC_at (cell.out w2 B2)
        by_cases hE : chkS x = 0
        · have HN2 := HN.out
          rw [if_pos hE] at HN2
          have HN3 := Lib.hid HN2
          have e0 : (chkS x == 0) = true := by simp [hE]
          generalize chkS x = E at e0
          clear HN2 HN hE
          go_wp2_with (at_builtin; refine app_row lays_stz stC_len stC_one rfl _ _ rfl w.heap.size (fltS (l.take k)) [x] _ _ rfl (HO2.out.alloc _) rfl (isR_one w2 x _ 1 rfl rfl) (by simp; omega) (by simp; omega) ?_; intro v5 w5 ho5 hb5 _ _)
          have B5 : Below w.heap.size w w5 := (B2.alloc z2 _).trans hb5
          go_roundw
          case rel => exact ⟨k + 1, by go_num, by omega, by rw [HN3.out]; exact ho5, B5⟩
          case measure => simp [intOf]; omega
        · have HN2 := HN.out
          rw [if_neg hE] at HN2
          have HN3 := Lib.hid HN2
          have e0 : (chkS x == 0) = false := by simp [hE]
          generalize chkS x = E at e0
          clear HN2 HN hE c0 c1 c2 c3 c4 c5 c6 c7
          go_wp2
          go_roundw
          case rel => exact ⟨k + 1, by go_num, by omega, by rw [HN3.out]; exact HO2.out, B2⟩
          case measure => simp [intOf]; omega
      · have hlf : lgtB x = false := by simpa using hlx
        rw [hlf] at cL
        clear hlx
        go_wp2_with fail
        refine (cL.out _).mono ?_; rintro e w1 ⟨rfl, hb1⟩
        have B1 := below_call hb1 hB.size hB
        clear c0 c1 c2 c3 c4 c5 c6 c7
        go_wp2_with fail
        refine (aw.out _ B1).mono ?_; rintro e w2 ⟨rfl, hb2⟩
        go_wp2
        go_ret
        exact ⟨rfl, below_call hb2 B1.size B1⟩
    · obtain rfl : k = l.length := by omega
      have hO := HO.out
      rw [List.take_length] at hO hfl ⊢
      have hok := flt_ok l
      have hw12 : (fltS l).length ≤ 12 := by omega
      clear HO HP
      generalize fltS l = Wt at hO hok hw12 hfl ⊢
      have hsz := enT_size hok
      have cE := Lib.hid (fun W (hb : Below w.heap.size w W) hr => denc_any (.slice ao Wt.length cp) Wt W (hT.call hb) hr (by omega) (fun x hx => sml_ok (hok x hx)))
      rw [en_ok hok] at cE
      have one := Lib.hid (fun a ha => back_one Wt hok hw12 a ha)
      obtain ⟨be1, be2⟩ := back_end hok
      have hnd := Lib.hid (fun (a : Nat) W => dneed_any (finD ((enT Wt).data.toList.take a)) W (by have := finD_size ((enT Wt).data.toList.take a); rw [List.length_take] at this; have := (list_sz (enT Wt)); omega))
      have eT : (enT Wt).data.toList.take (enT Wt).size = (enT Wt).data.toList := List.take_of_length_le (by rw [← list_sz]; exact Nat.le_refl _)
      generalize enT Wt = s at *
      obtain ⟨sZ, hsZ⟩ : ∃ sZ : Nat → Ds, sZ = fun i => finD (s.data.toList.take i) := ⟨_, rfl⟩
      obtain ⟨gZ, hgZ⟩ : ∃ gZ : Nat → Nat, gZ = fun i => (pr (s.data.toList.take i)).1.length := ⟨_, rfl⟩
      have one2 : Hid (∀ a, a < s.size → ∃ k c : Nat, needD (sZ a) = k ∧ 1 ≤ k ∧ a + k ≤ s.size ∧ gZ (a + k) = gZ a + c ∧ gZ a + c ≤ Wt.length ∧ ∀ W, Tabs9 W → Calls Tryd.prog 6 #[dsV (sZ a), .string (s.extract a (a + k))] W fun e w' => ∃ v, e = .returned (.tuple #[dsV (sZ (a + k)), v]) ∧ OwnR 45 9 itC w' W.heap.size v (((Wt.drop (gZ a)).take c).map (fun x => (x, 0))) ∧ Below W.heap.size W w') := Lib.hid (by rw [hsZ, hgZ]; exact one.out)
      have nd2 : Hid (∀ (a : Nat) W, Calls Tryd.prog 13 #[dsV (sZ a)] W fun e w' => e = .returned (.int .i64 (needD (sZ a))) ∧ Below W.heap.size W w') := Lib.hid (by rw [hsZ]; exact hnd.out)
      have s0 : sZ 0 = ⟨⟨#[]⟩, 0, 0⟩ := by rw [hsZ]; rfl
      have g0 : gZ 0 = 0 := by rw [hgZ]; rfl
      have s9 : sZ s.size = ⟨⟨#[]⟩, 0, Wt.length⟩ := by rw [hsZ]; show finD _ = _; rw [eT]; exact be1
      have g9 : gZ s.size = Wt.length := by rw [hgZ]; show (pr _).1.length = _; rw [eT]; exact be2
      have E9 := Lib.hid (And.intro s9 g9)
      clear one hnd hsZ hgZ eT be1 be2 s9 g9 hok hfl
      have RW := Lib.hid (hO.reads stC_len)
      clear hO
      simp only [dsV] at one2 nd2
      go_wp2_with fail
      refine (cE.out _ hB RW.out).mono ?_; rintro e w1 ⟨rfl, hb1⟩
      have B1 := below_call hb1 hB.size hB
      have R1 := Lib.hid (RW.out.call hb1)
      clear RW hb1 cE
      go_wp2
      go_loopw [8, 9] (fun g i wr => ∃ a : Nat, i = .int .i64 a ∧ a ≤ s.size ∧ g = .int .i64 (gZ a) ∧ gZ a ≤ Wt.length ∧ Row3 wr w1.heap.size (.string (sZ a).buf) (.int .i64 (sZ a).bad) (.int .i64 (sZ a).seen) ∧ Below w1.heap.size w1 wr) (fun _ i _ => s.size - (intOf i).toNat)
      case atStart => exact ⟨0, rfl, Nat.zero_le _, by rw [g0]; rfl, by omega, by rw [s0]; simp [Row3, go_sem], (Below.refl _ _).alloc (Nat.le_refl _) _⟩
      case round =>
        clear s0 g0
        obtain ⟨a, rfl, ha, rfl, hga, hz3, hBz⟩ := hrel
        have lz := hz3.lt
        have zz := hBz.size
        have HZ := Lib.hid hz3
        obtain ⟨⟨d0, d1, d2⟩, fd0, fd1, fd2⟩ := hz3
        by_cases hlt2 : a < s.size
        · have hlt2' : (a : Int) < s.size := by omega
          obtain ⟨k, c, n0, n1, n2, n3, n4, F⟩ := one2.out a hlt2
          have N := Lib.hid (nd2.out a)
          obtain ⟨X, hX⟩ : ∃ X : List It, X = ((Wt.drop (gZ a)).take c).map (fun x => (x, 0)) := ⟨_, rfl⟩
          rw [← hX] at F
          have XL : X.length = c := by rw [hX]; simp; omega
          have XG : Hid (∀ q (h : q < X.length), ∃ h2 : gZ a + q < Wt.length, X[q] = (Wt[gZ a + q], 0)) := Lib.hid (by
            subst hX
            intro q h
            simp at h
            exact ⟨by omega, by simp⟩)
          clear hX
          subst XL
          have FF := Lib.hid F
          have N3 := Lib.hid n3
          clear F n3
          rw [n0] at N
          have m1 : ¬ (k : Int) < 1 := by omega
          have w1' : IntKind.i64.wrap ((s.size : Int) - a) = (s.size : Int) - a := IntWalk.i64_in _ (by omega)
          have m2 : ¬ ((s.size : Int) - a) < (k : Int) := by omega
          go_wp2_with fail
          refine (N.out _).mono ?_; rintro e w2 ⟨rfl, hb2⟩
          have B2 : Below w1.heap.size w1 w2 := below_call hb2 zz hBz
          have Z2 := Lib.hid (HZ.out.call hb2 lz)
          have l2 := Z2.out.lt
          clear d0 d1 d2 fd0 fd1 fd2 HZ
          have v0 : (0 : Int) ≤ a := by omega
          have v1 : (a : Int) ≤ (a : Int) + k := by omega
          have v2 : (a : Int) + k ≤ s.size := by omega
          have v3 : ((a : Int) + (k : Int)).toNat = a + k := by omega
          have hw : IntKind.i64.wrap ((a : Int) + k) = (a : Int) + k := IntWalk.i64_in _ (by omega)
          have BW2 : Below w.heap.size w w2 := below_call B2 B1.size B1
          have zW := BW2.size
          go_upto_region 21 with fail
          go_cut [11, 12] (fun px pm wx => ∃ (bx : Nat) (p5 : Option Addr) (c5 : Nat), px = .pointer (some ⟨bx, 0, none⟩) ∧ pm = .slice p5 X.length c5 ∧ w2.heap.size ≤ bx ∧ Row3 wx bx (.string (sZ (a + k)).buf) (.int .i64 (sZ (a + k)).bad) (.int .i64 (sZ (a + k)).seen) ∧ OwnR 45 9 itC wx w2.heap.size pm X ∧ Below w2.heap.size w2 wx)
          case first =>
            have hT0 : Below w2.heap.size w2 w2.drew := Below.drew (Below.refl _ _)
            have hout : Hid (∀ W', Below w2.heap.size w2 W' → W'.cell? ⟨w1.heap.size, 0, none⟩ = some (.string (sZ a).buf) ∧ W'.cell? ⟨w1.heap.size, 1, none⟩ = some (.int .i64 (sZ a).bad) ∧ W'.cell? ⟨w1.heap.size, 2, none⟩ = some (.int .i64 (sZ a).seen)) := Lib.hid (fun W' h => (Z2.out.call h l2).1)
            refine wp_region_held_drew (S := fun W' => W'.cell? ⟨w1.heap.size, 0, none⟩ = some (.string (sZ a).buf) ∧ W'.cell? ⟨w1.heap.size, 1, none⟩ = some (.int .i64 (sZ a).bad) ∧ W'.cell? ⟨w1.heap.size, 2, none⟩ = some (.int .i64 (sZ a).seen)) (by kernel_rfl) (hout.out _ (by assumption)) (fun hHeld => ?_)
            (refine wpAnyH_take (i := 0) (v := ?_) rfl (by kernel_rfl) (by kernel_rfl) (by kernel_rfl) (fun _ _ _ h => h) (Or.inl ⟨by rfl, ?_⟩) (by assumption) ?_; rotate_left 1; (focus (intro wz hz; (try dsimp only at hz); (try simp only [List.getElem_toArray, List.getElem_cons_succ, List.getElem_cons_zero]); go_simp; (try (rw [if_neg (by (try simp only [ByteArray.size_append]); omega)])); try (with_reducible rfl); done)))
            try simp only [Act.put, List.getElem_toArray, List.getElem_cons_succ, List.getElem_cons_zero, List.setIfInBounds_toArray, List.set_cons_zero, List.set_cons_succ]
            (refine wpAnyH_take (i := 1) (v := ?_) rfl (by kernel_rfl) (by kernel_rfl) (by kernel_rfl) (fun _ _ _ h => h) (Or.inl ⟨by rfl, ?_⟩) (by assumption) ?_; rotate_left 1; (focus (intro wz hz; (try dsimp only at hz); (try simp only [List.getElem_toArray, List.getElem_cons_succ, List.getElem_cons_zero]); go_simp; (try (rw [if_neg (by (try simp only [ByteArray.size_append]); omega)])); try (with_reducible rfl); done)))
            try simp only [Act.put, List.getElem_toArray, List.getElem_cons_succ, List.getElem_cons_zero, List.setIfInBounds_toArray, List.set_cons_zero, List.set_cons_succ]
            (refine wpAnyH_take (i := 2) (v := ?_) rfl (by kernel_rfl) (by kernel_rfl) (by kernel_rfl) (fun _ _ _ h => h) (Or.inl ⟨by rfl, ?_⟩) (by assumption) ?_; rotate_left 1; (focus (intro wz hz; (try dsimp only at hz); (try simp only [List.getElem_toArray, List.getElem_cons_succ, List.getElem_cons_zero]); go_simp; (try (rw [if_neg (by (try simp only [ByteArray.size_append]); omega)])); try (with_reducible rfl); done)))
            try simp only [Act.put, List.getElem_toArray, List.getElem_cons_succ, List.getElem_cons_zero, List.setIfInBounds_toArray, List.set_cons_zero, List.set_cons_succ]
            (refine wpAnyH_take (i := 3) (v := ?_) rfl (by kernel_rfl) (by kernel_rfl) (by kernel_rfl) (fun _ _ _ h => h) (Or.inl ⟨by rfl, ?_⟩) (by assumption) ?_; rotate_left 1; (focus (intro wz hz; (try dsimp only at hz); (try simp only [List.getElem_toArray, List.getElem_cons_succ, List.getElem_cons_zero]); go_simp; (try (rw [if_neg (by (try simp only [ByteArray.size_append]); omega)])); try (with_reducible rfl); done)))
            try simp only [Act.put, List.getElem_toArray, List.getElem_cons_succ, List.getElem_cons_zero, List.setIfInBounds_toArray, List.set_cons_zero, List.set_cons_succ]
            (refine wpAnyH_take (i := 4) (v := ?_) rfl (by kernel_rfl) (by kernel_rfl) (by kernel_rfl) (fun _ _ _ h => h) (Or.inl ⟨by rfl, ?_⟩) (by assumption) ?_; rotate_left 1; (focus (intro wz hz; (try dsimp only at hz); (try simp only [List.getElem_toArray, List.getElem_cons_succ, List.getElem_cons_zero]); go_simp; (try (rw [if_neg (by (try simp only [ByteArray.size_append]); omega)])); try (with_reducible rfl); done)))
            try simp only [Act.put, List.getElem_toArray, List.getElem_cons_succ, List.getElem_cons_zero, List.setIfInBounds_toArray, List.set_cons_zero, List.set_cons_succ]
            (refine wpAnyH_take (i := 5) (v := ?_) rfl (by kernel_rfl) (by kernel_rfl) (by kernel_rfl) (fun _ _ _ h => h) (Or.inl ⟨by rfl, ?_⟩) (by assumption) ?_; rotate_left 1; (focus (intro wz hz; (try dsimp only at hz); (try simp only [List.getElem_toArray, List.getElem_cons_succ, List.getElem_cons_zero]); go_simp; (try (rw [if_neg (by (try simp only [ByteArray.size_append]); omega)])); try (with_reducible rfl); done)))
            try simp only [Act.put, List.getElem_toArray, List.getElem_cons_succ, List.getElem_cons_zero, List.setIfInBounds_toArray, List.set_cons_zero, List.set_cons_succ]
            (refine wpAnyH_take (i := 6) (v := ?_) rfl (by kernel_rfl) (by kernel_rfl) (by kernel_rfl) (fun _ _ _ h => h) (Or.inl ⟨by rfl, ?_⟩) (by assumption) ?_; rotate_left 1; (focus (intro wz hz; (try dsimp only at hz); (try simp only [List.getElem_toArray, List.getElem_cons_succ, List.getElem_cons_zero]); go_simp; (try (rw [if_neg (by (try simp only [ByteArray.size_append]); omega)])); try (with_reducible rfl); done)))
            try simp only [Act.put, List.getElem_toArray, List.getElem_cons_succ, List.getElem_cons_zero, List.setIfInBounds_toArray, List.set_cons_zero, List.set_cons_succ]
            refine wpAnyH_ready (rs := [7, 11]) (by kernel_rfl) (by simp) ?_
            refine AllReadyH.cons rfl (fun K hK => ?_) (AllReadyH.cons rfl (fun K hK => ?_) AllReadyH.nil)
            · ((try simp only [List.getElem_toArray, List.getElem_cons_succ, List.getElem_cons_zero]); go_simp; go_at_call 6; refine (FF.out _ (hT.call (by (repeat (first | (with_reducible exact Below.refl _ _) | ((with_reducible refine below_alloc ?_ ?_ _); · (first | omega | (simp; done) | (simp; omega))) | ((with_reducible refine below_setCell ?_ ?_ _); · (first | omega | (simp; done) | (simp; omega))) | (with_reducible refine Below.drew ?_) | (with_reducible refine below_drewN ?_ _) | ((with_reducible refine below_call (by assumption) ?_ ?_); · (first | omega | (simp; done) | (simp; omega)))))))).mono ?_; rintro e wn7 ⟨v5, rfl, ho5, hbn7⟩; obtain ⟨p5, c5, rfl⟩ := ho5.form; have hT7 : Below w2.heap.size w2 wn7 := (by (repeat (first | (with_reducible exact Below.refl _ _) | ((with_reducible refine below_alloc ?_ ?_ _); · (first | omega | (simp; done) | (simp; omega))) | ((with_reducible refine below_setCell ?_ ?_ _); · (first | omega | (simp; done) | (simp; omega))) | (with_reducible refine Below.drew ?_) | (with_reducible refine below_drewN ?_ _) | ((with_reducible refine below_call (by assumption) ?_ ?_); · (first | omega | (simp; done) | (simp; omega)))))); have z7 := hT7.size; (try (have RN := row3_new hbn7; obtain ⟨⟨r0, r1, r2⟩, fr0, fr1, fr2⟩ := id RN)); (try (go_wp2_with fail)); refine hK.out _ _ (hout.out _ (by assumption)) (fun hHeld => ?_); clear hK K)
              try simp only [Act.put, List.getElem_toArray, List.getElem_cons_succ, List.getElem_cons_zero, List.setIfInBounds_toArray, List.set_cons_zero, List.set_cons_succ]
              (refine wpAnyH_take (i := 8) (v := ?_) rfl (by kernel_rfl) (by kernel_rfl) (by kernel_rfl) (fun _ _ _ h => h) (Or.inl ⟨by rfl, ?_⟩) (by assumption) ?_; rotate_left 1; (focus (intro wz hz; (try dsimp only at hz); (try simp only [List.getElem_toArray, List.getElem_cons_succ, List.getElem_cons_zero]); go_simp; (try (rw [if_neg (by (try simp only [ByteArray.size_append]); omega)])); try (with_reducible rfl); done)))
              try simp only [Act.put, List.getElem_toArray, List.getElem_cons_succ, List.getElem_cons_zero, List.setIfInBounds_toArray, List.set_cons_zero, List.set_cons_succ]
              (refine wpAnyH_take (i := 9) (v := ?_) rfl (by kernel_rfl) (by kernel_rfl) (by kernel_rfl) (fun _ _ _ h => h) (Or.inl ⟨by rfl, ?_⟩) (by assumption) ?_; rotate_left 1; (focus (intro wz hz; (try dsimp only at hz); (try simp only [List.getElem_toArray, List.getElem_cons_succ, List.getElem_cons_zero]); go_simp; (try (rw [if_neg (by (try simp only [ByteArray.size_append]); omega)])); try (with_reducible rfl); done)))
              try simp only [Act.put, List.getElem_toArray, List.getElem_cons_succ, List.getElem_cons_zero, List.setIfInBounds_toArray, List.set_cons_zero, List.set_cons_succ]
              (refine wpAnyH_take (i := 10) (v := ?_) rfl (by kernel_rfl) (by kernel_rfl) (by kernel_rfl) (fun _ _ _ h => h) (Or.inl ⟨by rfl, ?_⟩) (by assumption) ?_; rotate_left 1; (focus (intro wz hz; (try dsimp only at hz); (try simp only [List.getElem_toArray, List.getElem_cons_succ, List.getElem_cons_zero]); go_simp; (try (rw [if_neg (by (try simp only [ByteArray.size_append]); omega)])); try (with_reducible rfl); done)))
              try simp only [Act.put, List.getElem_toArray, List.getElem_cons_succ, List.getElem_cons_zero, List.setIfInBounds_toArray, List.set_cons_zero, List.set_cons_succ]
              (refine wpAnyH_ready (rs := [11]) (by kernel_rfl) (by simp) ?_; refine AllReadyH.cons rfl (fun K hK => ?_) AllReadyH.nil; (try simp only [List.getElem_toArray, List.getElem_cons_succ, List.getElem_cons_zero]); skip; go_simp; refine hK.out _ _ (hout.out _ (by (repeat (first | (with_reducible exact Below.refl _ _) | ((with_reducible refine below_alloc ?_ ?_ _); · (first | omega | (simp; done) | (simp; omega))) | ((with_reducible refine below_setCell ?_ ?_ _); · (first | omega | (simp; done) | (simp; omega))) | (with_reducible refine Below.drew ?_) | (with_reducible refine below_drewN ?_ _) | ((with_reducible refine below_call (by assumption) ?_ ?_); · (first | omega | (simp; done) | (simp; omega))))))) (fun hHeld => ?_); clear hK K)
              try simp only [Act.put, List.getElem_toArray, List.getElem_cons_succ, List.getElem_cons_zero, List.setIfInBounds_toArray, List.set_cons_zero, List.set_cons_succ]
              (refine wpAnyH_ready (rs := [12]) (by kernel_rfl) (by simp) ?_; refine AllReadyH.cons rfl (fun K hK => ?_) AllReadyH.nil; (try simp only [List.getElem_toArray, List.getElem_cons_succ, List.getElem_cons_zero]); skip; go_simp; refine hK.out _ _ (hout.out _ (by (repeat (first | (with_reducible exact Below.refl _ _) | ((with_reducible refine below_alloc ?_ ?_ _); · (first | omega | (simp; done) | (simp; omega))) | ((with_reducible refine below_setCell ?_ ?_ _); · (first | omega | (simp; done) | (simp; omega))) | (with_reducible refine Below.drew ?_) | (with_reducible refine below_drewN ?_ _) | ((with_reducible refine below_call (by assumption) ?_ ?_); · (first | omega | (simp; done) | (simp; omega))))))) (fun hHeld => ?_); clear hK K)
              try simp only [Act.put, List.getElem_toArray, List.getElem_cons_succ, List.getElem_cons_zero, List.setIfInBounds_toArray, List.set_cons_zero, List.set_cons_succ]
              (refine wpAnyH_take (i := 13) (v := ?_) rfl (by kernel_rfl) (by kernel_rfl) (by kernel_rfl) (fun _ _ _ h => h) (Or.inl ⟨by rfl, ?_⟩) (by assumption) ?_; rotate_left 1; (focus (intro wz hz; (try dsimp only at hz); (try simp only [List.getElem_toArray, List.getElem_cons_succ, List.getElem_cons_zero]); go_simp; (try (rw [if_neg (by (try simp only [ByteArray.size_append]); omega)])); try (with_reducible rfl); done)))
              try simp only [Act.put, List.getElem_toArray, List.getElem_cons_succ, List.getElem_cons_zero, List.setIfInBounds_toArray, List.set_cons_zero, List.set_cons_succ]
              refine wpAnyH_done (by kernel_rfl) ?_ _
              go_wp2_with fail; go_meet; first | exact ⟨w2.heap.size, p5, c5, rfl, rfl, Nat.le_refl _, ((RN.set0 _).set1 _).set2 _, (((ho5.set (p := ⟨w2.heap.size, 0, none⟩) (by simp) _).set (p := ⟨w2.heap.size, 1, none⟩) (by simp) _).set (p := ⟨w2.heap.size, 2, none⟩) (by simp) _).mono (by simp), by (repeat (first | (with_reducible exact Below.refl _ _) | ((with_reducible refine below_alloc ?_ ?_ _); · (first | omega | (simp; done) | (simp; omega))) | ((with_reducible refine below_setCell ?_ ?_ _); · (first | omega | (simp; done) | (simp; omega))) | (with_reducible refine Below.drew ?_) | (with_reducible refine below_drewN ?_ _) | ((with_reducible refine below_call (by assumption) ?_ ?_); · (first | omega | (simp; done) | (simp; omega)))))⟩ | exact ⟨wn7.heap.size, p5, c5, rfl, rfl, z7, by simp [Row3, go_sem], (ho5.call (by (repeat (first | (with_reducible exact Below.refl _ _) | ((with_reducible refine below_alloc ?_ ?_ _); · (first | omega | (simp; done) | (simp; omega))) | ((with_reducible refine below_setCell ?_ ?_ _); · (first | omega | (simp; done) | (simp; omega))) | (with_reducible refine Below.drew ?_) | (with_reducible refine below_drewN ?_ _) | ((with_reducible refine below_call (by assumption) ?_ ?_); · (first | omega | (simp; done) | (simp; omega))))))).mono (by simp), by (repeat (first | (with_reducible exact Below.refl _ _) | ((with_reducible refine below_alloc ?_ ?_ _); · (first | omega | (simp; done) | (simp; omega))) | ((with_reducible refine below_setCell ?_ ?_ _); · (first | omega | (simp; done) | (simp; omega))) | (with_reducible refine Below.drew ?_) | (with_reducible refine below_drewN ?_ _) | ((with_reducible refine below_call (by assumption) ?_ ?_); · (first | omega | (simp; done) | (simp; omega)))))⟩
            · ((try simp only [List.getElem_toArray, List.getElem_cons_succ, List.getElem_cons_zero]); skip; go_simp; refine hK.out _ _ (hout.out _ (by (repeat (first | (with_reducible exact Below.refl _ _) | ((with_reducible refine below_alloc ?_ ?_ _); · (first | omega | (simp; done) | (simp; omega))) | ((with_reducible refine below_setCell ?_ ?_ _); · (first | omega | (simp; done) | (simp; omega))) | (with_reducible refine Below.drew ?_) | (with_reducible refine below_drewN ?_ _) | ((with_reducible refine below_call (by assumption) ?_ ?_); · (first | omega | (simp; done) | (simp; omega))))))) (fun hHeld => ?_); clear hK K)
              try simp only [Act.put, List.getElem_toArray, List.getElem_cons_succ, List.getElem_cons_zero, List.setIfInBounds_toArray, List.set_cons_zero, List.set_cons_succ]
              (refine wpAnyH_ready (rs := [7]) (by kernel_rfl) (by simp) ?_; refine AllReadyH.cons rfl (fun K hK => ?_) AllReadyH.nil; (try simp only [List.getElem_toArray, List.getElem_cons_succ, List.getElem_cons_zero]); go_simp; go_at_call 6; refine (FF.out _ (hT.call (by (repeat (first | (with_reducible exact Below.refl _ _) | ((with_reducible refine below_alloc ?_ ?_ _); · (first | omega | (simp; done) | (simp; omega))) | ((with_reducible refine below_setCell ?_ ?_ _); · (first | omega | (simp; done) | (simp; omega))) | (with_reducible refine Below.drew ?_) | (with_reducible refine below_drewN ?_ _) | ((with_reducible refine below_call (by assumption) ?_ ?_); · (first | omega | (simp; done) | (simp; omega)))))))).mono ?_; rintro e wn7 ⟨v5, rfl, ho5, hbn7⟩; obtain ⟨p5, c5, rfl⟩ := ho5.form; have hT7 : Below w2.heap.size w2 wn7 := (by (repeat (first | (with_reducible exact Below.refl _ _) | ((with_reducible refine below_alloc ?_ ?_ _); · (first | omega | (simp; done) | (simp; omega))) | ((with_reducible refine below_setCell ?_ ?_ _); · (first | omega | (simp; done) | (simp; omega))) | (with_reducible refine Below.drew ?_) | (with_reducible refine below_drewN ?_ _) | ((with_reducible refine below_call (by assumption) ?_ ?_); · (first | omega | (simp; done) | (simp; omega)))))); have z7 := hT7.size; (try (have RN := row3_new hbn7; obtain ⟨⟨r0, r1, r2⟩, fr0, fr1, fr2⟩ := id RN)); (try (go_wp2_with fail)); refine hK.out _ _ (hout.out _ (by assumption)) (fun hHeld => ?_); clear hK K)
              try simp only [Act.put, List.getElem_toArray, List.getElem_cons_succ, List.getElem_cons_zero, List.setIfInBounds_toArray, List.set_cons_zero, List.set_cons_succ]
              (refine wpAnyH_take (i := 8) (v := ?_) rfl (by kernel_rfl) (by kernel_rfl) (by kernel_rfl) (fun _ _ _ h => h) (Or.inl ⟨by rfl, ?_⟩) (by assumption) ?_; rotate_left 1; (focus (intro wz hz; (try dsimp only at hz); (try simp only [List.getElem_toArray, List.getElem_cons_succ, List.getElem_cons_zero]); go_simp; (try (rw [if_neg (by (try simp only [ByteArray.size_append]); omega)])); try (with_reducible rfl); done)))
              try simp only [Act.put, List.getElem_toArray, List.getElem_cons_succ, List.getElem_cons_zero, List.setIfInBounds_toArray, List.set_cons_zero, List.set_cons_succ]
              (refine wpAnyH_take (i := 9) (v := ?_) rfl (by kernel_rfl) (by kernel_rfl) (by kernel_rfl) (fun _ _ _ h => h) (Or.inl ⟨by rfl, ?_⟩) (by assumption) ?_; rotate_left 1; (focus (intro wz hz; (try dsimp only at hz); (try simp only [List.getElem_toArray, List.getElem_cons_succ, List.getElem_cons_zero]); go_simp; (try (rw [if_neg (by (try simp only [ByteArray.size_append]); omega)])); try (with_reducible rfl); done)))
              try simp only [Act.put, List.getElem_toArray, List.getElem_cons_succ, List.getElem_cons_zero, List.setIfInBounds_toArray, List.set_cons_zero, List.set_cons_succ]
              (refine wpAnyH_take (i := 10) (v := ?_) rfl (by kernel_rfl) (by kernel_rfl) (by kernel_rfl) (fun _ _ _ h => h) (Or.inl ⟨by rfl, ?_⟩) (by assumption) ?_; rotate_left 1; (focus (intro wz hz; (try dsimp only at hz); (try simp only [List.getElem_toArray, List.getElem_cons_succ, List.getElem_cons_zero]); go_simp; (try (rw [if_neg (by (try simp only [ByteArray.size_append]); omega)])); try (with_reducible rfl); done)))
              try simp only [Act.put, List.getElem_toArray, List.getElem_cons_succ, List.getElem_cons_zero, List.setIfInBounds_toArray, List.set_cons_zero, List.set_cons_succ]
              (refine wpAnyH_ready (rs := [12]) (by kernel_rfl) (by simp) ?_; refine AllReadyH.cons rfl (fun K hK => ?_) AllReadyH.nil; (try simp only [List.getElem_toArray, List.getElem_cons_succ, List.getElem_cons_zero]); skip; go_simp; refine hK.out _ _ (hout.out _ (by (repeat (first | (with_reducible exact Below.refl _ _) | ((with_reducible refine below_alloc ?_ ?_ _); · (first | omega | (simp; done) | (simp; omega))) | ((with_reducible refine below_setCell ?_ ?_ _); · (first | omega | (simp; done) | (simp; omega))) | (with_reducible refine Below.drew ?_) | (with_reducible refine below_drewN ?_ _) | ((with_reducible refine below_call (by assumption) ?_ ?_); · (first | omega | (simp; done) | (simp; omega))))))) (fun hHeld => ?_); clear hK K)
              try simp only [Act.put, List.getElem_toArray, List.getElem_cons_succ, List.getElem_cons_zero, List.setIfInBounds_toArray, List.set_cons_zero, List.set_cons_succ]
              (refine wpAnyH_take (i := 13) (v := ?_) rfl (by kernel_rfl) (by kernel_rfl) (by kernel_rfl) (fun _ _ _ h => h) (Or.inl ⟨by rfl, ?_⟩) (by assumption) ?_; rotate_left 1; (focus (intro wz hz; (try dsimp only at hz); (try simp only [List.getElem_toArray, List.getElem_cons_succ, List.getElem_cons_zero]); go_simp; (try (rw [if_neg (by (try simp only [ByteArray.size_append]); omega)])); try (with_reducible rfl); done)))
              try simp only [Act.put, List.getElem_toArray, List.getElem_cons_succ, List.getElem_cons_zero, List.setIfInBounds_toArray, List.set_cons_zero, List.set_cons_succ]
              refine wpAnyH_done (by kernel_rfl) ?_ _
              go_wp2_with fail; go_meet; first | exact ⟨w2.heap.size, p5, c5, rfl, rfl, Nat.le_refl _, ((RN.set0 _).set1 _).set2 _, (((ho5.set (p := ⟨w2.heap.size, 0, none⟩) (by simp) _).set (p := ⟨w2.heap.size, 1, none⟩) (by simp) _).set (p := ⟨w2.heap.size, 2, none⟩) (by simp) _).mono (by simp), by (repeat (first | (with_reducible exact Below.refl _ _) | ((with_reducible refine below_alloc ?_ ?_ _); · (first | omega | (simp; done) | (simp; omega))) | ((with_reducible refine below_setCell ?_ ?_ _); · (first | omega | (simp; done) | (simp; omega))) | (with_reducible refine Below.drew ?_) | (with_reducible refine below_drewN ?_ _) | ((with_reducible refine below_call (by assumption) ?_ ?_); · (first | omega | (simp; done) | (simp; omega)))))⟩ | exact ⟨wn7.heap.size, p5, c5, rfl, rfl, z7, by simp [Row3, go_sem], (ho5.call (by (repeat (first | (with_reducible exact Below.refl _ _) | ((with_reducible refine below_alloc ?_ ?_ _); · (first | omega | (simp; done) | (simp; omega))) | ((with_reducible refine below_setCell ?_ ?_ _); · (first | omega | (simp; done) | (simp; omega))) | (with_reducible refine Below.drew ?_) | (with_reducible refine below_drewN ?_ _) | ((with_reducible refine below_call (by assumption) ?_ ?_); · (first | omega | (simp; done) | (simp; omega))))))).mono (by simp), by (repeat (first | (with_reducible exact Below.refl _ _) | ((with_reducible refine below_alloc ?_ ?_ _); · (first | omega | (simp; done) | (simp; omega))) | ((with_reducible refine below_setCell ?_ ?_ _); · (first | omega | (simp; done) | (simp; omega))) | (with_reducible refine Below.drew ?_) | (with_reducible refine below_drewN ?_ _) | ((with_reducible refine below_call (by assumption) ?_ ?_); · (first | omega | (simp; done) | (simp; omega)))))⟩
          case rest =>
          obtain ⟨bx, p5, c5, rfl, rfl, lbx, RS, OR, hS⟩ := hcut
          have Z3 := Z2.out.call hS l2
          have B3 := below_call hS B2.size B2
          have lr := RS.lt
          have OR2 := Lib.hid OR
          obtain ⟨⟨d0, d1, d2⟩, fd0, fd1, fd2⟩ := id Z3
          obtain ⟨⟨r0, r1, r2⟩, fr0, fr1, fr2⟩ := id RS
          clear OR
          go_wp2
          refine gen_world (F := fun W => Row3 W w1.heap.size (.string (sZ (a + k)).buf) (.int .i64 (sZ (a + k)).bad) (.int .i64 (sZ (a + k)).seen) ∧ OwnR 45 9 itC W w2.heap.size (.slice p5 X.length c5) X ∧ Below w1.heap.size w1 W) ⟨((Z3.set0 _).set1 _).set2 _, ((OR2.out.set (p := ⟨w1.heap.size, 0, none⟩) l2 _).set (p := ⟨w1.heap.size, 1, none⟩) l2 _).set (p := ⟨w1.heap.size, 2, none⟩) l2 _, ((B3.setCell (p := ⟨w1.heap.size, 0, none⟩) (Nat.le_refl _) _).setCell (p := ⟨w1.heap.size, 1, none⟩) (Nat.le_refl _) _).setCell (p := ⟨w1.heap.size, 2, none⟩) (Nat.le_refl _) _⟩ ?_
          rintro wS ⟨ZS, OS, BS⟩
          have HZS := Lib.hid ZS
          have HXS := Lib.hid (OS.reads itC_len)
          have HWS := Lib.hid (R1.out.call BS)
          have N3' := N3.out
          clear d0 d1 d2 fd0 fd1 fd2 r0 r1 r2 fr0 fr1 fr2 OS Z3 RS OR2 hS B3 FF N
          go_loopw [8, 13] (fun g i wr => ∃ q : Nat, i = .int .i64 q ∧ q ≤ X.length ∧ g = .int .i64 ((gZ a + q : Nat) : Int) ∧ Below wS.heap.size wS wr) (fun _ i _ => X.length - (intOf i).toNat)
          case atStart => exact ⟨0, rfl, Nat.zero_le _, rfl, Below.refl _ _⟩
          case round =>
            obtain ⟨q, rfl, hq, rfl, hBq⟩ := hrel
            by_cases hlq : q < X.length
            · have hlq' : (q : Int) < X.length := by omega
              obtain ⟨g2, gx⟩ := XG.out q hlq
              obtain ⟨pX, cX, eX, -, hX⟩ := HXS.out
              cases eX
              obtain ⟨b1, o1, rfl, x1⟩ := hX q hlq
              obtain ⟨pW, cW, eW, -, hW⟩ := HWS.out
              cases eW
              obtain ⟨b2, o2, rfl, x2⟩ := hW _ g2
              rw [gx] at x1
              obtain ⟨x, hx⟩ : ∃ x, Wt[gZ a + q] = x := ⟨_, rfl⟩
              rw [hx] at x1 x2
              have hout : Hid (∀ W', Below wS.heap.size wS W' → (W'.cell? ⟨b1, o1 + q * 9, none⟩ = some (.int .u8 (x.k.toNat : Int)) ∧ W'.cell? ⟨b1, o1 + q * 9 + 1, none⟩ = some (.string x.u) ∧ W'.cell? ⟨b1, o1 + q * 9 + 2, none⟩ = some (.string x.r) ∧ W'.cell? ⟨b1, o1 + q * 9 + 3, none⟩ = some (.string x.m) ∧ W'.cell? ⟨b1, o1 + q * 9 + 4, none⟩ = some (.int .i64 x.s) ∧ W'.cell? ⟨b1, o1 + q * 9 + 5, none⟩ = some (.int .i64 x.p) ∧ W'.cell? ⟨b1, o1 + q * 9 + 6, none⟩ = some (.int .i64 x.c) ∧ W'.cell? ⟨b1, o1 + q * 9 + 7, none⟩ = some (.int .i64 x.n) ∧ W'.cell? ⟨b1, o1 + q * 9 + 8, none⟩ = some (.int .i64 0)) ∧ (W'.cell? ⟨b2, o2 + (gZ a + q) * 8, none⟩ = some (.int .u8 (x.k.toNat : Int)) ∧ W'.cell? ⟨b2, o2 + (gZ a + q) * 8 + 1, none⟩ = some (.string x.u) ∧ W'.cell? ⟨b2, o2 + (gZ a + q) * 8 + 2, none⟩ = some (.string x.r) ∧ W'.cell? ⟨b2, o2 + (gZ a + q) * 8 + 3, none⟩ = some (.string x.m) ∧ W'.cell? ⟨b2, o2 + (gZ a + q) * 8 + 4, none⟩ = some (.int .i64 x.s) ∧ W'.cell? ⟨b2, o2 + (gZ a + q) * 8 + 5, none⟩ = some (.int .i64 x.p) ∧ W'.cell? ⟨b2, o2 + (gZ a + q) * 8 + 6, none⟩ = some (.int .i64 x.c) ∧ W'.cell? ⟨b2, o2 + (gZ a + q) * 8 + 7, none⟩ = some (.int .i64 x.n))) := Lib.hid (fun W' h => ⟨itC_at (x := (x, 0)) (fun c u hu => (h.cell (p := ⟨b1, o1 + q * 9 + c, none⟩) (World.block_lt_of_cell? _ _ (x1 c u hu))).trans (x1 c u hu)), stC_at (x := x) (fun c u hu => (h.cell (p := ⟨b2, o2 + (gZ a + q) * 8 + c, none⟩) (World.block_lt_of_cell? _ _ (x2 c u hu))).trans (x2 c u hu))⟩)
              have NQ : ∀ W, (binOp .neq 40 (stzV x) (stzV x)).run Tryd.prog W = .ok (.bool false) W := fun W => by
                have h := neq_stz x x W
                rw [sameS_refl] at h
                exact h
              simp only [stzV] at NQ
              have e1 : ¬ (Wt.length : Int) ≤ ((gZ a + q : Nat) : Int) := by omega
              have e2 : ((gZ a + q : Nat) : Int) < Wt.length := by omega
              have e3 : (0 : Int) ≤ ((gZ a + q : Nat) : Int) := by omega
              have e4 : IntKind.i64.wrap (((gZ a + q : Nat) : Int) + 1) = ((gZ a + (q + 1) : Nat) : Int) := by rw [IntWalk.i64_in _ (by omega)]; omega
              clear x1 x2 gx hx hX hW g2
              generalize gZ a + q = gq at *
              have e5 : decide ((Wt.length : Int) ≤ (gq : Int)) = false := decide_eq_false e1
              have e6 : decide (Wt.length ≤ gq) = false := decide_eq_false (by omega)
              go_wp2
              refine wp_region_held_drew (S := fun W => (W.cell? ⟨b1, o1 + q * 9, none⟩ = some (.int .u8 (x.k.toNat : Int)) ∧ W.cell? ⟨b1, o1 + q * 9 + 1, none⟩ = some (.string x.u) ∧ W.cell? ⟨b1, o1 + q * 9 + 2, none⟩ = some (.string x.r) ∧ W.cell? ⟨b1, o1 + q * 9 + 3, none⟩ = some (.string x.m) ∧ W.cell? ⟨b1, o1 + q * 9 + 4, none⟩ = some (.int .i64 x.s) ∧ W.cell? ⟨b1, o1 + q * 9 + 5, none⟩ = some (.int .i64 x.p) ∧ W.cell? ⟨b1, o1 + q * 9 + 6, none⟩ = some (.int .i64 x.c) ∧ W.cell? ⟨b1, o1 + q * 9 + 7, none⟩ = some (.int .i64 x.n) ∧ W.cell? ⟨b1, o1 + q * 9 + 8, none⟩ = some (.int .i64 0)) ∧ (W.cell? ⟨b2, o2 + gq * 8, none⟩ = some (.int .u8 (x.k.toNat : Int)) ∧ W.cell? ⟨b2, o2 + gq * 8 + 1, none⟩ = some (.string x.u) ∧ W.cell? ⟨b2, o2 + gq * 8 + 2, none⟩ = some (.string x.r) ∧ W.cell? ⟨b2, o2 + gq * 8 + 3, none⟩ = some (.string x.m) ∧ W.cell? ⟨b2, o2 + gq * 8 + 4, none⟩ = some (.int .i64 x.s) ∧ W.cell? ⟨b2, o2 + gq * 8 + 5, none⟩ = some (.int .i64 x.p) ∧ W.cell? ⟨b2, o2 + gq * 8 + 6, none⟩ = some (.int .i64 x.c) ∧ W.cell? ⟨b2, o2 + gq * 8 + 7, none⟩ = some (.int .i64 x.n))) (by kernel_rfl) (hout.out _ (Below.drew hBq)) (fun hHeld => ?_)
              (refine wpAnyH_take (i := 0) (v := ?_) rfl (by kernel_rfl) (by kernel_rfl) (by kernel_rfl) (fun _ _ _ h => h) (Or.inl ⟨by rfl, ?_⟩) (by assumption) ?_; rotate_left 1; (focus (intro wz hz; (try dsimp only at hz); (try simp only [List.getElem_toArray, List.getElem_cons_succ, List.getElem_cons_zero]); go_simp; (try (rw [if_neg (by (try simp only [ByteArray.size_append]); omega)])); try (with_reducible rfl); done)))
              try simp only [Act.put, List.getElem_toArray, List.getElem_cons_succ, List.getElem_cons_zero, List.setIfInBounds_toArray, List.set_cons_zero, List.set_cons_succ]
              (refine wpAnyH_take (i := 1) (v := ?_) rfl (by kernel_rfl) (by kernel_rfl) (by kernel_rfl) (fun _ _ _ h => h) (Or.inl ⟨by rfl, ?_⟩) (by assumption) ?_; rotate_left 1; (focus (intro wz hz; (try dsimp only at hz); (try simp only [List.getElem_toArray, List.getElem_cons_succ, List.getElem_cons_zero]); go_simp; (try (rw [if_neg (by (try simp only [ByteArray.size_append]); omega)])); try (with_reducible rfl); done)))
              try simp only [Act.put, List.getElem_toArray, List.getElem_cons_succ, List.getElem_cons_zero, List.setIfInBounds_toArray, List.set_cons_zero, List.set_cons_succ]
              (refine wpAnyH_take (i := 2) (v := ?_) rfl (by kernel_rfl) (by kernel_rfl) (by kernel_rfl) (fun _ _ _ h => h) (Or.inl ⟨by rfl, ?_⟩) (by assumption) ?_; rotate_left 1; (focus (intro wz hz; (try dsimp only at hz); (try simp only [List.getElem_toArray, List.getElem_cons_succ, List.getElem_cons_zero]); go_simp; (try (rw [if_neg (by (try simp only [ByteArray.size_append]); omega)])); try (with_reducible rfl); done)))
              try simp only [Act.put, List.getElem_toArray, List.getElem_cons_succ, List.getElem_cons_zero, List.setIfInBounds_toArray, List.set_cons_zero, List.set_cons_succ]
              (refine wpAnyH_take (i := 3) (v := ?_) rfl (by kernel_rfl) (by kernel_rfl) (by kernel_rfl) (fun _ _ _ h => h) (Or.inl ⟨by rfl, ?_⟩) (by assumption) ?_; rotate_left 1; (focus (intro wz hz; (try dsimp only at hz); (try simp only [List.getElem_toArray, List.getElem_cons_succ, List.getElem_cons_zero]); go_simp; (try (rw [if_neg (by (try simp only [ByteArray.size_append]); omega)])); try (with_reducible rfl); done)))
              try simp only [Act.put, List.getElem_toArray, List.getElem_cons_succ, List.getElem_cons_zero, List.setIfInBounds_toArray, List.set_cons_zero, List.set_cons_succ]
              (refine wpAnyH_take (i := 4) (v := ?_) rfl (by kernel_rfl) (by kernel_rfl) (by kernel_rfl) (fun _ _ _ h => h) (Or.inl ⟨by rfl, ?_⟩) (by assumption) ?_; rotate_left 1; (focus (intro wz hz; (try dsimp only at hz); (try simp only [List.getElem_toArray, List.getElem_cons_succ, List.getElem_cons_zero]); go_simp; (try (rw [if_neg (by (try simp only [ByteArray.size_append]); omega)])); try (with_reducible rfl); done)))
              try simp only [Act.put, List.getElem_toArray, List.getElem_cons_succ, List.getElem_cons_zero, List.setIfInBounds_toArray, List.set_cons_zero, List.set_cons_succ]
              first | (refine wpAnyH_take (i := 5) (v := ?_) rfl (by kernel_rfl) (by kernel_rfl) (by kernel_rfl) (fun _ _ _ h => h) (Or.inl ⟨by rfl, ?_⟩) (by assumption) ?_; rotate_left 1; (focus (intro wz hz; (try dsimp only at hz); (try simp only [List.getElem_toArray, List.getElem_cons_succ, List.getElem_cons_zero]); go_simp; (try (rw [if_neg (by (try simp only [ByteArray.size_append]); omega)])); try (with_reducible rfl); done))) | (refine wpAnyH_take (i := 5) (v := undef) rfl (by kernel_rfl) (by kernel_rfl) (by kernel_rfl) (fun _ _ _ h => h) (Or.inr ⟨by rfl, rfl⟩) (by assumption) ?_)
              try simp only [Act.put, List.getElem_toArray, List.getElem_cons_succ, List.getElem_cons_zero, List.setIfInBounds_toArray, List.set_cons_zero, List.set_cons_succ]
              first | (refine wpAnyH_take (i := 6) (v := ?_) rfl (by kernel_rfl) (by kernel_rfl) (by kernel_rfl) (fun _ _ _ h => h) (Or.inl ⟨by rfl, ?_⟩) (by assumption) ?_; rotate_left 1; (focus (intro wz hz; (try dsimp only at hz); (try simp only [List.getElem_toArray, List.getElem_cons_succ, List.getElem_cons_zero]); go_simp; (try (rw [if_neg (by (try simp only [ByteArray.size_append]); omega)])); try (with_reducible rfl); done))) | (refine wpAnyH_take (i := 6) (v := undef) rfl (by kernel_rfl) (by kernel_rfl) (by kernel_rfl) (fun _ _ _ h => h) (Or.inr ⟨by rfl, rfl⟩) (by assumption) ?_)
              try simp only [Act.put, List.getElem_toArray, List.getElem_cons_succ, List.getElem_cons_zero, List.setIfInBounds_toArray, List.set_cons_zero, List.set_cons_succ]
              first | (refine wpAnyH_take (i := 7) (v := ?_) rfl (by kernel_rfl) (by kernel_rfl) (by kernel_rfl) (fun _ _ _ h => h) (Or.inl ⟨by rfl, ?_⟩) (by assumption) ?_; rotate_left 1; (focus (intro wz hz; (try dsimp only at hz); (try simp only [List.getElem_toArray, List.getElem_cons_succ, List.getElem_cons_zero]); go_simp; (try (rw [if_neg (by (try simp only [ByteArray.size_append]); omega)])); try (with_reducible rfl); done))) | (refine wpAnyH_take (i := 7) (v := undef) rfl (by kernel_rfl) (by kernel_rfl) (by kernel_rfl) (fun _ _ _ h => h) (Or.inr ⟨by rfl, rfl⟩) (by assumption) ?_)
              try simp only [Act.put, List.getElem_toArray, List.getElem_cons_succ, List.getElem_cons_zero, List.setIfInBounds_toArray, List.set_cons_zero, List.set_cons_succ]
              first | (refine wpAnyH_take (i := 8) (v := ?_) rfl (by kernel_rfl) (by kernel_rfl) (by kernel_rfl) (fun _ _ _ h => h) (Or.inl ⟨by rfl, ?_⟩) (by assumption) ?_; rotate_left 1; (focus (intro wz hz; (try dsimp only at hz); (try simp only [List.getElem_toArray, List.getElem_cons_succ, List.getElem_cons_zero]); go_simp; (try (rw [if_neg (by (try simp only [ByteArray.size_append]); omega)])); try (with_reducible rfl); done))) | (refine wpAnyH_take (i := 8) (v := undef) rfl (by kernel_rfl) (by kernel_rfl) (by kernel_rfl) (fun _ _ _ h => h) (Or.inr ⟨by rfl, rfl⟩) (by assumption) ?_)
              try simp only [Act.put, List.getElem_toArray, List.getElem_cons_succ, List.getElem_cons_zero, List.setIfInBounds_toArray, List.set_cons_zero, List.set_cons_succ]
              first | (refine wpAnyH_take (i := 9) (v := ?_) rfl (by kernel_rfl) (by kernel_rfl) (by kernel_rfl) (fun _ _ _ h => h) (Or.inl ⟨by rfl, ?_⟩) (by assumption) ?_; rotate_left 1; (focus (intro wz hz; (try dsimp only at hz); (try simp only [List.getElem_toArray, List.getElem_cons_succ, List.getElem_cons_zero]); go_simp; (try (rw [if_neg (by (try simp only [ByteArray.size_append]); omega)])); try (with_reducible rfl); done))) | (refine wpAnyH_take (i := 9) (v := undef) rfl (by kernel_rfl) (by kernel_rfl) (by kernel_rfl) (fun _ _ _ h => h) (Or.inr ⟨by rfl, rfl⟩) (by assumption) ?_)
              try simp only [Act.put, List.getElem_toArray, List.getElem_cons_succ, List.getElem_cons_zero, List.setIfInBounds_toArray, List.set_cons_zero, List.set_cons_succ]
              first | (refine wpAnyH_take (i := 10) (v := ?_) rfl (by kernel_rfl) (by kernel_rfl) (by kernel_rfl) (fun _ _ _ h => h) (Or.inl ⟨by rfl, ?_⟩) (by assumption) ?_; rotate_left 1; (focus (intro wz hz; (try dsimp only at hz); (try simp only [List.getElem_toArray, List.getElem_cons_succ, List.getElem_cons_zero]); go_simp; (try (rw [if_neg (by (try simp only [ByteArray.size_append]); omega)])); try (with_reducible rfl); done))) | (refine wpAnyH_take (i := 10) (v := undef) rfl (by kernel_rfl) (by kernel_rfl) (by kernel_rfl) (fun _ _ _ h => h) (Or.inr ⟨by rfl, rfl⟩) (by assumption) ?_)
              try simp only [Act.put, List.getElem_toArray, List.getElem_cons_succ, List.getElem_cons_zero, List.setIfInBounds_toArray, List.set_cons_zero, List.set_cons_succ]
              (refine wpAnyH_take (i := 11) (v := ?_) rfl (by kernel_rfl) (by kernel_rfl) (by kernel_rfl) (fun _ _ _ h => h) (Or.inl ⟨by rfl, ?_⟩) (by assumption) ?_; rotate_left 1; (focus (intro wz hz; (try dsimp only at hz); (try simp only [List.getElem_toArray, List.getElem_cons_succ, List.getElem_cons_zero]); go_simp; (try (rw [if_neg (by (try simp only [ByteArray.size_append]); omega)])); try (with_reducible rfl); done)))
              try simp only [Act.put, List.getElem_toArray, List.getElem_cons_succ, List.getElem_cons_zero, List.setIfInBounds_toArray, List.set_cons_zero, List.set_cons_succ]
              (refine wpAnyH_take (i := 12) (v := ?_) rfl (by kernel_rfl) (by kernel_rfl) (by kernel_rfl) (fun _ _ _ h => h) (Or.inl ⟨by rfl, ?_⟩) (by assumption) ?_; rotate_left 1; (focus (intro wz hz; (try dsimp only at hz); (try simp only [List.getElem_toArray, List.getElem_cons_succ, List.getElem_cons_zero]); go_simp; (try (rw [if_neg (by (try simp only [ByteArray.size_append]); omega)])); try (with_reducible rfl); done)))
              try simp only [Act.put, List.getElem_toArray, List.getElem_cons_succ, List.getElem_cons_zero, List.setIfInBounds_toArray, List.set_cons_zero, List.set_cons_succ]
              first | (refine wpAnyH_take (i := 13) (v := ?_) rfl (by kernel_rfl) (by kernel_rfl) (by kernel_rfl) (fun _ _ _ h => h) (Or.inl ⟨by rfl, ?_⟩) (by assumption) ?_; rotate_left 1; (focus (intro wz hz; (try dsimp only at hz); (try simp only [List.getElem_toArray, List.getElem_cons_succ, List.getElem_cons_zero]); go_simp; (try (rw [if_neg (by (try simp only [ByteArray.size_append]); omega)])); try (with_reducible rfl); done))) | (refine wpAnyH_take (i := 13) (v := undef) rfl (by kernel_rfl) (by kernel_rfl) (by kernel_rfl) (fun _ _ _ h => h) (Or.inr ⟨by rfl, rfl⟩) (by assumption) ?_)
              try simp only [Act.put, List.getElem_toArray, List.getElem_cons_succ, List.getElem_cons_zero, List.setIfInBounds_toArray, List.set_cons_zero, List.set_cons_succ]
              first | (refine wpAnyH_take (i := 14) (v := ?_) rfl (by kernel_rfl) (by kernel_rfl) (by kernel_rfl) (fun _ _ _ h => h) (Or.inl ⟨by rfl, ?_⟩) (by assumption) ?_; rotate_left 1; (focus (intro wz hz; (try dsimp only at hz); (try simp only [List.getElem_toArray, List.getElem_cons_succ, List.getElem_cons_zero]); go_simp; (try (rw [if_neg (by (try simp only [ByteArray.size_append]); omega)])); try (with_reducible rfl); done))) | (refine wpAnyH_take (i := 14) (v := undef) rfl (by kernel_rfl) (by kernel_rfl) (by kernel_rfl) (fun _ _ _ h => h) (Or.inr ⟨by rfl, rfl⟩) (by assumption) ?_)
              try simp only [Act.put, List.getElem_toArray, List.getElem_cons_succ, List.getElem_cons_zero, List.setIfInBounds_toArray, List.set_cons_zero, List.set_cons_succ]
              first | (refine wpAnyH_take (i := 18) (v := ?_) rfl (by kernel_rfl) (by kernel_rfl) (by kernel_rfl) (fun _ _ _ h => h) (Or.inl ⟨by rfl, ?_⟩) (by assumption) ?_; rotate_left 1; (focus (intro wz hz; (try dsimp only at hz); (try simp only [List.getElem_toArray, List.getElem_cons_succ, List.getElem_cons_zero]); go_simp; (try (rw [if_neg (by (try simp only [ByteArray.size_append]); omega)])); try (with_reducible rfl); done))) | (refine wpAnyH_take (i := 18) (v := undef) rfl (by kernel_rfl) (by kernel_rfl) (by kernel_rfl) (fun _ _ _ h => h) (Or.inr ⟨by rfl, rfl⟩) (by assumption) ?_)
              try simp only [Act.put, List.getElem_toArray, List.getElem_cons_succ, List.getElem_cons_zero, List.setIfInBounds_toArray, List.set_cons_zero, List.set_cons_succ]
              first | (refine wpAnyH_take (i := 19) (v := ?_) rfl (by kernel_rfl) (by kernel_rfl) (by kernel_rfl) (fun _ _ _ h => h) (Or.inl ⟨by rfl, ?_⟩) (by assumption) ?_; rotate_left 1; (focus (intro wz hz; (try dsimp only at hz); (try simp only [List.getElem_toArray, List.getElem_cons_succ, List.getElem_cons_zero]); go_simp; (try (rw [if_neg (by (try simp only [ByteArray.size_append]); omega)])); try (with_reducible rfl); done))) | (refine wpAnyH_take (i := 19) (v := undef) rfl (by kernel_rfl) (by kernel_rfl) (by kernel_rfl) (fun _ _ _ h => h) (Or.inr ⟨by rfl, rfl⟩) (by assumption) ?_)
              try simp only [Act.put, List.getElem_toArray, List.getElem_cons_succ, List.getElem_cons_zero, List.setIfInBounds_toArray, List.set_cons_zero, List.set_cons_succ]
              first | (refine wpAnyH_take (i := 15) (v := ?_) rfl (by kernel_rfl) (by kernel_rfl) (by kernel_rfl) (fun _ _ _ h => h) (Or.inl ⟨by rfl, ?_⟩) (by assumption) ?_; rotate_left 1; (focus (intro wz hz; (try dsimp only at hz); (try simp only [List.getElem_toArray, List.getElem_cons_succ, List.getElem_cons_zero]); go_simp; (try (rw [if_neg (by (try simp only [ByteArray.size_append]); omega)])); try (with_reducible rfl); done))) | (refine wpAnyH_take (i := 15) (v := undef) rfl (by kernel_rfl) (by kernel_rfl) (by kernel_rfl) (fun _ _ _ h => h) (Or.inr ⟨by rfl, rfl⟩) (by assumption) ?_)
              try simp only [Act.put, List.getElem_toArray, List.getElem_cons_succ, List.getElem_cons_zero, List.setIfInBounds_toArray, List.set_cons_zero, List.set_cons_succ]
              first | (refine wpAnyH_take (i := 20) (v := ?_) rfl (by kernel_rfl) (by kernel_rfl) (by kernel_rfl) (fun _ _ _ h => h) (Or.inl ⟨by rfl, ?_⟩) (by assumption) ?_; rotate_left 1; (focus (intro wz hz; (try dsimp only at hz); (try simp only [List.getElem_toArray, List.getElem_cons_succ, List.getElem_cons_zero]); go_simp; (try (rw [if_neg (by (try simp only [ByteArray.size_append]); omega)])); try (with_reducible rfl); done))) | (refine wpAnyH_take (i := 20) (v := undef) rfl (by kernel_rfl) (by kernel_rfl) (by kernel_rfl) (fun _ _ _ h => h) (Or.inr ⟨by rfl, rfl⟩) (by assumption) ?_)
              try simp only [Act.put, List.getElem_toArray, List.getElem_cons_succ, List.getElem_cons_zero, List.setIfInBounds_toArray, List.set_cons_zero, List.set_cons_succ]
              first | (refine wpAnyH_take (i := 16) (v := ?_) rfl (by kernel_rfl) (by kernel_rfl) (by kernel_rfl) (fun _ _ _ h => h) (Or.inl ⟨by rfl, ?_⟩) (by assumption) ?_; rotate_left 1; (focus (intro wz hz; (try dsimp only at hz); (try simp only [List.getElem_toArray, List.getElem_cons_succ, List.getElem_cons_zero]); go_simp; (try (rw [if_neg (by (try simp only [ByteArray.size_append]); omega)])); try (with_reducible rfl); done))) | (refine wpAnyH_take (i := 16) (v := undef) rfl (by kernel_rfl) (by kernel_rfl) (by kernel_rfl) (fun _ _ _ h => h) (Or.inr ⟨by rfl, rfl⟩) (by assumption) ?_)
              try simp only [Act.put, List.getElem_toArray, List.getElem_cons_succ, List.getElem_cons_zero, List.setIfInBounds_toArray, List.set_cons_zero, List.set_cons_succ]
              first | (refine wpAnyH_take (i := 21) (v := ?_) rfl (by kernel_rfl) (by kernel_rfl) (by kernel_rfl) (fun _ _ _ h => h) (Or.inl ⟨by rfl, ?_⟩) (by assumption) ?_; rotate_left 1; (focus (intro wz hz; (try dsimp only at hz); (try simp only [List.getElem_toArray, List.getElem_cons_succ, List.getElem_cons_zero]); go_simp; (try (rw [if_neg (by (try simp only [ByteArray.size_append]); omega)])); try (with_reducible rfl); done))) | (refine wpAnyH_take (i := 21) (v := undef) rfl (by kernel_rfl) (by kernel_rfl) (by kernel_rfl) (fun _ _ _ h => h) (Or.inr ⟨by rfl, rfl⟩) (by assumption) ?_)
              try simp only [Act.put, List.getElem_toArray, List.getElem_cons_succ, List.getElem_cons_zero, List.setIfInBounds_toArray, List.set_cons_zero, List.set_cons_succ]
              first | (refine wpAnyH_take (i := 17) (v := ?_) rfl (by kernel_rfl) (by kernel_rfl) (by kernel_rfl) (fun _ _ _ h => h) (Or.inl ⟨by rfl, ?_⟩) (by assumption) ?_; rotate_left 1; (focus (intro wz hz; (try dsimp only at hz); (try simp only [List.getElem_toArray, List.getElem_cons_succ, List.getElem_cons_zero]); go_simp; (try (rw [if_neg (by (try simp only [ByteArray.size_append]); omega)])); try (with_reducible rfl); done))) | (refine wpAnyH_take (i := 17) (v := undef) rfl (by kernel_rfl) (by kernel_rfl) (by kernel_rfl) (fun _ _ _ h => h) (Or.inr ⟨by rfl, rfl⟩) (by assumption) ?_)
              try simp only [Act.put, List.getElem_toArray, List.getElem_cons_succ, List.getElem_cons_zero, List.setIfInBounds_toArray, List.set_cons_zero, List.set_cons_succ]
              first | (refine wpAnyH_take (i := 22) (v := ?_) rfl (by kernel_rfl) (by kernel_rfl) (by kernel_rfl) (fun _ _ _ h => h) (Or.inl ⟨by rfl, ?_⟩) (by assumption) ?_; rotate_left 1; (focus (intro wz hz; (try dsimp only at hz); (try simp only [List.getElem_toArray, List.getElem_cons_succ, List.getElem_cons_zero]); go_simp; (try (rw [if_neg (by (try simp only [ByteArray.size_append]); omega)])); try (with_reducible rfl); done))) | (refine wpAnyH_take (i := 22) (v := undef) rfl (by kernel_rfl) (by kernel_rfl) (by kernel_rfl) (fun _ _ _ h => h) (Or.inr ⟨by rfl, rfl⟩) (by assumption) ?_)
              try simp only [Act.put, List.getElem_toArray, List.getElem_cons_succ, List.getElem_cons_zero, List.setIfInBounds_toArray, List.set_cons_zero, List.set_cons_succ]
              (refine wpAnyH_take (i := 23) (v := ?_) rfl (by kernel_rfl) (by kernel_rfl) (by kernel_rfl) (fun _ _ _ h => h) (Or.inl ⟨by rfl, ?_⟩) (by assumption) ?_; rotate_left 1; (focus (intro wz hz; (try dsimp only at hz); (try simp only [List.getElem_toArray, List.getElem_cons_succ, List.getElem_cons_zero]); go_simp; (try (rw [if_neg (by (try simp only [ByteArray.size_append]); omega)])); try (with_reducible rfl); done)))
              try simp only [Act.put, List.getElem_toArray, List.getElem_cons_succ, List.getElem_cons_zero, List.setIfInBounds_toArray, List.set_cons_zero, List.set_cons_succ]
              refine wpAnyH_done (by kernel_rfl) ?_ _
              clear NQ hout
              go_wp2
              go_roundw
              case rel => exact ⟨q + 1, by go_num, by omega, (by first | go_num | (congr 1; omega)), by (repeat (first | (with_reducible exact Below.refl _ _) | ((with_reducible refine below_alloc ?_ ?_ _); · (first | omega | (simp; done) | (simp; omega))) | ((with_reducible refine below_setCell ?_ ?_ _); · (first | omega | (simp; done) | (simp; omega))) | (with_reducible refine Below.drew ?_) | (with_reducible refine below_drewN ?_ _) | ((with_reducible refine below_call (by assumption) ?_ ?_); · (first | omega | (simp; done) | (simp; omega)))))⟩
              case measure => simp [intOf]; omega
            · obtain rfl : q = X.length := by omega
              have Z4 := HZS.out.call hBq HZS.out.lt
              have B4 := below_call hBq BS.size BS
              clear HXS HWS XG
              go_wp2
              go_roundw
              case rel => exact ⟨a + k, by go_num, n2, by rw [N3'], by rw [N3']; exact n4, Z4, B4⟩
              case measure => simp [intOf]; omega
        · obtain rfl : a = s.size := by omega
          obtain ⟨E1, E2⟩ := E9.out
          rw [E1] at d0 d1 d2
          have qe : ∀ W, (binOp .eql 25 (.agg #[.string ⟨#[]⟩, .int .i64 0, .int .i64 (Wt.length : Int)]) (.agg #[.string ⟨#[]⟩, .int .i64 0, .int .i64 (Wt.length : Int)])).run Tryd.prog W = .ok (.bool true) W := fun W => by
            have h := eq_dst ⟨⟨#[]⟩, 0, Wt.length⟩ ⟨⟨#[]⟩, 0, Wt.length⟩ W
            simpa using h
          have BZ := below_call hBz B1.size B1
          rw [E2]
          clear E1 E2 E9 one2 nd2 HZ R1
          go_wp2_with fail
          refine (aw.out _ BZ).mono ?_; rintro e w3 ⟨rfl, hb3⟩
          go_wp2
          go_ret
          exact ⟨rfl, below_call hb3 BZ.size BZ⟩

set_option maxRecDepth 100000 in
theorem dback_lifted (os : Os) (started : os.Started) (H : Type) (enc : TypeId × Value → H) :
    ReturnsInHanded {} Tryd.checked os 4 .any (fun w args => (Rows.deframeBackSpec.pre enc Tryd.prog Tryd.f4 Rows.deframeBackRow.domain false w args ∧ laidMetH Tryd.prog laidU8 w) ∧ sizedMet enc Tryd.prog Tryd.f4 (OpenSpec.ofChange Rows.deframeBackSpec) false w args)
      (Rows.deframeBackSpec.post enc Tryd.prog Tryd.f4 false true false false) := by
  refine handed_shape (Pre' := fun w args => (Rows.deframeBackSpec.pre enc Tryd.prog Tryd.f4 Rows.deframeBackRow.domain false w args ∧ (laidMetH Tryd.prog laidU8 w ∧ Maxs w)) ∧ sizedMet enc Tryd.prog Tryd.f4 (OpenSpec.ofChange Rows.deframeBackSpec) false w args) (fun w args hs h => ⟨⟨h.1.1, h.1.2, maxs_of_shape hs⟩, h.2⟩) (fun w args h => ⟨⟨h.1.1, h.1.2.1⟩, h.2⟩) ?_
  refine returnsInHanded_of_change_and (C := Tryd.checked) (X := fun w _ => laidMetH Tryd.prog laidU8 w ∧ Maxs w) (fun _ _ _ hh h => ⟨h.1.of_heap hh, h.2.of_heap hh⟩) own started (by kernel_rfl) Tryd.func4
    (ChangeSpec.witness_shaped (enc := enc) (C := Tryd.checked) (os := os) (X := fun w _ => laidMetH Tryd.prog laidU8 w ∧ Maxs w) false (World.laidAll Tryd.prog os laidU8) #[.slice none 0 0] 8 (World.laidAll_os _ _ _)
      (World.shaped_of_ZipB (by kernel_rfl) (by kernel_rfl)) (by kernel_rfl) (by kernel_rfl) (by kernel_rfl)
      ⟨by rw [MakeChecks.laidMetH_plain _ _ _ (by kernel_rfl)]; exact laidMet_laidAll _ (by kernel_rfl) (by kernel_rfl), maxs_laid os⟩) ?_
  intro W base args ds gs before hval0 hW _ _ hLM _
  obtain ⟨hL, hM⟩ := hLM
  have hval : ∀ (j : Nat) t v, Tryd.f4.params[j]? = some t → args[j]? = some v → Value.okWide Tryd.prog W .any base t v := hval0
  have hW' := hW
  obtain ⟨p, q, hA0, hV, rfl, hfz, hnd⟩ := hW
  have hA : DataW.TrodAll enc Tryd.prog W 0 (fun _ => true) true Tryd.f4.params.toList args.toList ds p := hA0
  rw [Tryd.params4] at hA hval
  obtain ⟨v0, vs0, d0, ds0, p0, q0, hargs, rfl, rfl, h0, r0⟩ := trodAll_cons hA
  obtain ⟨rfl, rfl, rfl⟩ := trodAll_nil r0
  obtain rfl : args = #[v0] := by cases args; simp_all
  obtain ⟨rfl, rfl⟩ := trodVars_none hV
  obtain ⟨l, hl, _⟩ := open_stanzas (hval 0 34 v0 rfl rfl) h0
  refine (dback_walk v0 l W ⟨tabs_of_laid hL, hM⟩ hl).mono fun e W' ⟨he, hb⟩ => ?_
  subst he
  exact ⟨_, rfl, law_post rfl rfl Tryd.underlying4 (by kernel_rfl) rfl hW' hb⟩
theorem dback_holds : Rows.DeframeBackSaid :=
  OpenClaim.holds_of_wide 4 Tryd.f4 rfl rfl rfl rfl rfl rfl rfl ⟨rfl, rfl, rfl, rfl, rfl⟩ rfl rfl rfl rfl rfl (by kernel_rfl) Tryd.func4 (by kernel_rfl)
    (of_decide_eq_true (by kernel_rfl)) (by unfold Func.isWrapper; first | (rw [if_pos (by decide +kernel)]; kernel_rfl) | (rw [if_neg (by decide +kernel)]; exact ⟨rfl, rfl⟩))
    (fun os started H enc _ => dback_lifted os started H enc)
theorem dback_card : Rows.DeframeBackCardSaid :=
  Claim7.holds_tied_plain_at .later [] [.data, .pinned] true Rows.deframeBackCard.stood.harness false dback_holds (fun _ h => by cases h) (by kernel_rfl) (fun _ h => by cases h) deframeBack_row_tie rfl ⟨rfl, rfl⟩ (by kernel_rfl) rfl
    (fun f fn hf hfn => by
      obtain rfl : f = 4 := Option.some.inj ((show Tryd.prog.funcNamed "callboy/callboylaw12.DeframeBack" = some 4 by kernel_rfl).symm.trans hf) |>.symm
      obtain rfl : fn = Tryd.f4 := (Option.some.inj (Tryd.func4.symm.trans hfn)).symm
      exact ⟨by kernel_rfl, fun j t ht => by
        rw [Tryd.params4] at ht
        have hm : t ∈ [34] := by simpa using Array.mem_of_getElem? ht
        have hall : ([34].all fun u => !Tryd.prog.wantsStandIn u) = true := by kernel_rfl
        exact (show Tryd.prog.wantsStandIn t = false by simpa using List.all_eq_true.1 hall t hm)⟩)
    (by kernel_rfl)
end Go.Proofs.YtackinamkibmlaaDoor
