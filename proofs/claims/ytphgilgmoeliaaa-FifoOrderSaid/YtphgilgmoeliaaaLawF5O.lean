/- FifoOrder: numbers that are put are taken in the order in which they were put, each once; those that find no room are told: the statement holds for every input. No condition. -/
import Derived.Test.YtphgilgmoeliaaaLawKit
import Derived.Test.YtphgilgmoeliaaaLawOpenC
import Derived.Test.YtphgilgmoeliaaaF5X
namespace Go.Proofs.Ytphgilgmoeliaaa
open Go.RowKit Go.ChangeShapes Go.WideShapes Go.ChangeAt
set_option linter.unusedVariables false
set_option linter.unusedSimpArgs false

theorem IsR.far {W w1 : World} {B g h N : Nat} {L : List Int} (H : IsR W g h N L) (hb : Below B W w1) (hg : g < B) (hh : h < B) : IsR w1 g h N L := by
  obtain ⟨f, c, H, h2⟩ := H
  exact ⟨f, c, { H with
    c0 := (hb.cell (p := ⟨g, 0, none⟩) hg).trans H.c0
    c1 := (hb.cell (p := ⟨g, 1, none⟩) hg).trans H.c1
    c2 := (hb.cell (p := ⟨g, 2, none⟩) hg).trans H.c2
    fr := fun o => (hb.frozen (p := ⟨g, o, none⟩) hg).trans (H.fr o)
    cs := fun j hj => (hb.cell (p := ⟨h, j, none⟩) hh).trans (H.cs j hj)
    fs := fun j => (hb.frozen (p := ⟨h, j, none⟩) hh).trans (H.fs j) }, h2⟩
theorem mod_nat (x : Int) (h : 0 ≤ x) (n : Nat) (hn : 0 < n) : ∃ y : Nat, Int.tmod x n = y ∧ x % n = y ∧ y < n := by
  rw [Int.tmod_eq_emod_of_nonneg h]
  have h1 := Int.emod_nonneg x (show (n : Int) ≠ 0 by omega)
  have h2 := Int.emod_lt_of_pos x (show (0 : Int) < n by omega)
  exact ⟨(x % n).toNat, by omega, by omega, by omega⟩
theorem bool_ret {a b : Bool} {P : Value → Prop} (h : a = b) (hp : P (.bool a)) : P (.bool b) := by rw [← h]; exact hp

set_option maxRecDepth 100000 in
set_option maxHeartbeats 16000000 in
theorem forder_walk (r : Int) (v : Value) (l : List Cal) (w : World) (hr : 0 ≤ r ∧ r ≤ 255) (hv : IsAc w v l) (hby : ∀ d ∈ l, BytC d) :
    Calls Try.prog 5 #[.int .u8 r, v] w fun e w' => e = .returned (.bool true) ∧ Below w.heap.size w w' := by
  obtain ⟨i0, hi, hj0, hj1, hj2⟩ := info_parts info_int
  obtain ⟨p, cap, rfl, hrd⟩ := hv
  have H := Lib.hid hrd
  have HY := Lib.hid hby
  clear hrd hby
  by_cases hl : 150 < l.length
  · have hl' : (150 : Int) < l.length := by omega
    clear hl
    go_enter Try.func5, Try.ntmps5
    go_wp2_with fail
    refine (awake_any _).mono ?_; rintro e w1 ⟨rfl, hb1⟩
    go_wp2
    go_ret
    exact ⟨rfl, hb1⟩
  have hl' : (l.length : Int) ≤ 150 := by omega
  have hl : l.length ≤ 150 := by omega
  obtain ⟨M, hM1, hM2, hM3⟩ := mod_nat r hr.1 64 (by decide)
  replace hM1 : Int.tmod r 64 = M := hM1
  replace hM2 : r % 64 = M := hM2
  obtain ⟨N, hN⟩ : ∃ N : Nat, N = M + 1 := ⟨_, rfl⟩
  obtain ⟨nn, hnn⟩ : ∃ nn : Int, 1 + (M : Int) = nn := ⟨_, rfl⟩
  have HNN := Lib.hid (show (N : Int) = nn ∧ 1 ≤ N ∧ N ≤ 64 ∧ 1 ≤ nn ∧ nn ≤ 64 by omega)
  have hn1 : 1 ≤ nn := by omega
  have hn2 : nn ≤ 64 := by omega
  have hwn : IntKind.i64.wrap nn = nn := IntWalk.i64_in _ (by omega)
  have cn := fun W => new_yes N W HNN.out.2.1 HNN.out.2.2.1
  rw [HNN.out.1] at cn
  clear hN
  go_enter Try.func5, Try.ntmps5
  go_wp2_with fail
  refine (cn _).mono ?_; rintro e w1 ⟨g, h, rfl, HR1, hg, hh, hb1⟩
  obtain ⟨hgl, hhl, -, -, -, -⟩ := HR1.lt
  have HG := Lib.hid (show w.heap.size ≤ g ∧ w.heap.size ≤ h from ⟨hg, hh⟩)
  obtain ⟨B1, hB1⟩ : ∃ B1, B1 = w1.heap.size := ⟨_, rfl⟩
  have HB1 := Lib.hid (show g < B1 ∧ h < B1 ∧ w.heap.size ≤ B1 ∧ B1 ≤ w1.heap.size by have := hb1.size; omega)
  have HR1 := Lib.hid HR1
  have HL1 := Lib.hid hb1
  clear cn hM1 hM2 hnn hg hh hgl hhl hb1 hB1
  go_wp2
  go_loopw [8, 9, 10] (fun u q i wr => ∃ (k t : Nat) (P : List Int) (ao : Option Addr) (cp : Nat), i = .int .i64 k ∧ q = .int .i64 t ∧ u = .slice ao P.length cp ∧ k ≤ l.length ∧ t ≤ P.length ∧ P.length ≤ k ∧ Hid (IsR wr g h N (P.drop t)) ∧ Hid (OwnI wr B1 (.slice ao P.length cp) P) ∧ Hid (Below w.heap.size w wr ∧ B1 ≤ wr.heap.size)) (fun _ _ i _ => l.length - (intOf i).toNat)
  case atStart => exact ⟨0, 0, [], none, 0, rfl, rfl, rfl, by omega, by simp, by simp, HR1, Lib.hid (OwnI.nil _ _), Lib.hid ⟨HL1.out, HB1.out.2.2.2⟩⟩
  case round =>
    clear HR1 HL1
    obtain ⟨k, t, P, ao, cp, rfl, rfl, rfl, hk, htP, hPk, HR, HO, HL⟩ := hrel
    by_cases hlt : k < l.length
    · have hlt' : (k : Int) < l.length := by omega
      obtain ⟨b, off, rfl, d0, d1⟩ := H.out k hlt
      have hyk := HY.out l[k] (List.getElem_mem hlt)
      obtain ⟨kd, hkd⟩ : ∃ x, l[k].1 = x := ⟨_, rfl⟩
      obtain ⟨x, hx⟩ : ∃ x, l[k].2 = x := ⟨_, rfl⟩
      unfold BytC at hyk
      rw [hkd] at d0 hyk
      rw [hx] at d1
      have HD := Lib.hid (fun W (hb : Below w.heap.size w W) => (show W.cell? ⟨b, off + k * 2, none⟩ = some (.int .u8 kd) ∧ W.cell? ⟨b, off + k * 2 + 1, none⟩ = some (.int .i64 x) from
        ⟨(hb.cell (p := ⟨b, off + k * 2, none⟩) (World.block_lt_of_cell? _ _ d0)).trans d0, (hb.cell (p := ⟨b, off + k * 2 + 1, none⟩) (World.block_lt_of_cell? _ _ d1)).trans d1⟩))
      obtain ⟨K, hK1, hK2, hK3⟩ := mod_nat kd hyk.1 3 (by decide)
      replace hK1 : Int.tmod kd 3 = K := hK1
      replace hK2 : kd % 3 = K := hK2
      have hK0 : (K : Int) ≤ 2 := by omega
      have hwK : IntKind.i64.wrap (K : Int) = K := IntWalk.i64_in _ (by omega)
      have hwK8 : IntKind.u8.wrap (K : Int) = K := IntWalk.u8_in _ (by omega)
      obtain ⟨D, hD⟩ : ∃ D : Int, (P.length : Int) - t = D := ⟨_, rfl⟩
      have hD0 : 0 ≤ D := by omega
      have hD1 : D ≤ 150 := by omega
      have hwD : IntKind.i64.wrap D = D := IntWalk.i64_in _ (by omega)
      clear d0 d1 hkd hx
      have c1 := (HD.out wr HL.out.1).2
      have cp2 := put_any g h N (P.drop t) x wr HR.out
      by_cases hroom : (P.drop t).length < N
      · have hdn : D < nn := by rw [List.length_drop] at hroom; have := HNN.out.1; omega
        have hput := Lib.hid (show putP N (P.drop t) x = (P ++ [x]).drop t by unfold putP; rw [if_pos hroom, List.drop_append_of_le_length htP])
        have hdt : decide ((P.drop t).length < N) = true := by simpa using hroom
        rw [hdt] at cp2
        clear hroom hdt
        go_wp2_with fail
        refine cp2.mono ?_; rintro e w2 ⟨rfl, HR2, b2⟩
        rw [hput.out] at HR2
        have HR2 := Lib.hid HR2
        have HO2 := Lib.hid (HO.out.but b2 HB1.out.1 HB1.out.2.1)
        have HL2 := Lib.hid (show Below w.heap.size w w2 ∧ B1 ≤ w2.heap.size from ⟨HL.out.1.trans (b2.to HG.out.1 HG.out.2 HL.out.1.size), Nat.le_trans HL.out.2 b2.size⟩)
        have e1 := (HD.out w2 HL2.out.1).2
        clear b2 HR HO HL cp2 c1 hput
        go_wp2_with (at_builtin; refine wpList_append_own _ rfl _ _ 28 rfl B1 3 i0 (.int .i64 0) 1 8 Try.underlying28 hi hj0 hj1 hj2 rfl (by decide) _ P.length (P.map (Value.int .i64)) rfl (World.ownsRow.alloc HO2.out _) ⟨w2.heap.size, 0, none⟩ 1 1 [Value.int .i64 x] rfl rfl (cell_one_new _ _ _) (by simp [Value.oneCell']) (by unfold maxLen; omega) (by omega) (by have := HL2.out.2; simp; omega) ?_; intro v' w4 hown' hgr _)
        have hb4 : Below B1 w2 w4 := ((Below.refl _ _).alloc HL2.out.2 _).grown hgr (by have := HL2.out.2; simp; omega) (fun q hq => (World.ownsRow.lt HO2.out q hq).1)
        have HO4 : Hid (OwnI w4 B1 v' (P ++ [x])) := Lib.hid (by show World.ownsRow _ _ _ _ _ _ _; rw [List.length_append, List.map_append]; exact hown')
        have HR4 := Lib.hid (HR2.out.far hb4 HB1.out.1 HB1.out.2.1)
        have HL4 := Lib.hid (show Below w.heap.size w w4 ∧ B1 ≤ w4.heap.size from ⟨HL2.out.1.trans (hb4.mono HB1.out.2.2.1), Nat.le_trans HL2.out.2 hb4.size⟩)
        obtain ⟨P2, hP2⟩ : ∃ P2, P ++ [x] = P2 := ⟨_, rfl⟩
        have hPl : P2.length = P.length + 1 := by rw [← hP2]; simp
        obtain ⟨ao2, cp3, hve⟩ := rowI_shape HO4.out
        rw [hP2] at HO4 HR4 hve
        subst hve
        have htP2 : t ≤ P2.length := by omega
        have hPk2 : P2.length ≤ k + 1 := by omega
        clear hown' hgr hb4 HO2 HR2 HL2 e1 hP2 hPl htP hPk hD hD0 hD1 hwD hdn
        try go_wp2
        go_loopw [9, 12] (fun q j wr' => ∃ (t' n' : Nat), q = .int .i64 t' ∧ j = .int .i64 n' ∧ n' ≤ K ∧ t' ≤ P2.length ∧ Hid (IsR wr' g h N (P2.drop t')) ∧ Hid (OwnI wr' B1 (.slice ao2 P2.length cp3) P2) ∧ Hid (Below w.heap.size w wr' ∧ B1 ≤ wr'.heap.size)) (fun _ j _ => K - (intOf j).toNat)
        case atStart => exact ⟨t, 0, rfl, rfl, by omega, htP2, HR4, HO4, HL4⟩
        case round =>
          clear HR4 HO4 HL4
          obtain ⟨t', n', rfl, rfl, hn', ht', HR, HO, HL⟩ := hrel
          have c0 := (HD.out _ HL.out.1).1
          by_cases hjk : n' < K
          · have hjk' : (n' : Int) < K := by omega
            have ct := take_any g h N (P2.drop t') _ HR.out
            rw [List.drop_drop] at ct
            by_cases hin : t' < P2.length
            · have hin' : (t' : Int) < P2.length := by omega
              obtain ⟨y, hy⟩ : ∃ y, P2[t'] = y := ⟨_, rfl⟩
              have hde : P2.drop t' = y :: P2.drop (t' + 1) := by rw [List.drop_eq_getElem_cons hin, hy]
              rw [hde] at ct
              replace ct := ct.mono (fun e w' hh => (show e = .returned (.tuple #[.int .i64 y, .bool true]) ∧ IsR w' g h N (P2.drop (t' + 1)) ∧ But2 _ w' g h from ⟨hh.1.trans (by simp), hh.2.1, hh.2.2⟩))
              go_wp2_with fail
              refine ct.mono ?_; rintro e w5 ⟨rfl, HR5, b5⟩
              have HR5 := Lib.hid HR5
              have HO5 := Lib.hid (HO.out.but b5 HB1.out.1 HB1.out.2.1)
              have HL5 := Lib.hid (show Below w.heap.size w w5 ∧ B1 ≤ w5.heap.size from ⟨HL.out.1.trans (b5.to HG.out.1 HG.out.2 HL.out.1.size), Nat.le_trans HL.out.2 b5.size⟩)
              obtain ⟨pp', cc', hve', hrd'⟩ := HO5.out.reads
              cases hve'
              obtain ⟨b', off', hpp', dy⟩ := hrd' t' hin
              subst hpp'
              rw [hy] at dy
              clear b5 HR HO HL ct hy hde hrd' c0
              go_wp2
              go_roundw
              case rel => exact ⟨t' + 1, n' + 1, by go_num, by go_num, by omega, by omega, HR5, HO5, HL5⟩
              case measure => first | (simp [intOf]; done) | (simp [intOf]; omega)
            · obtain rfl : t' = P2.length := by omega
              rw [List.drop_length] at ct
              replace ct := ct.mono (fun e w' hh => (show e = .returned (.tuple #[.int .i64 0, .bool false]) ∧ IsR w' g h N (P2.drop P2.length) ∧ But2 _ w' g h from ⟨hh.1.trans (by simp), by have := hh.2.1; rw [List.drop_eq_nil_of_le (by omega)] at this; rw [List.drop_length]; exact this, hh.2.2⟩))
              go_wp2_with fail
              refine ct.mono ?_; rintro e w5 ⟨rfl, HR5, b5⟩
              have HR5 := Lib.hid HR5
              have HO5 := Lib.hid (HO.out.but b5 HB1.out.1 HB1.out.2.1)
              have HL5 := Lib.hid (show Below w.heap.size w w5 ∧ B1 ≤ w5.heap.size from ⟨HL.out.1.trans (b5.to HG.out.1 HG.out.2 HL.out.1.size), Nat.le_trans HL.out.2 b5.size⟩)
              clear b5 HR HO HL ct c0
              go_wp2
              go_roundw
              case rel => exact ⟨P2.length, n' + 1, rfl, by go_num, by omega, by omega, HR5, HO5, HL5⟩
              case measure => first | (simp [intOf]; done) | (simp [intOf]; omega)
          · obtain rfl : n' = K := by omega
            obtain ⟨D2, hD2⟩ : ∃ D2 : Int, (P2.length : Int) - t' = D2 := ⟨_, rfl⟩
            have hwD2 : IntKind.i64.wrap D2 = D2 := IntWalk.i64_in _ (by omega)
            obtain ⟨Q2, hQ2⟩ : ∃ Q2 : Int, nn - D2 = Q2 := ⟨_, rfl⟩
            have hdl : ((P2.drop t').length : Int) = D2 := by rw [List.length_drop]; omega
            have hsum : IntKind.i64.wrap (D2 + Q2) = nn := by rw [IntWalk.i64_in _ (by omega)]; omega
            have hsum2 : D2 + Q2 = nn := by omega
            have hdr : (N : Int) - (P2.drop t').length = Q2 := by rw [hdl, HNN.out.1]; exact hQ2
            have cl := fun W (hR : IsR W g h N (P2.drop t')) => len_any g h N (P2.drop t') W hR
            have cr := fun W (hR : IsR W g h N (P2.drop t')) => room_any g h N (P2.drop t') W hR
            rw [hdl] at cl
            rw [hdr] at cr
            clear hdl hdr hQ2
            go_wp2_with fail
            refine (cl _ HR.out).mono ?_; rintro e w5 ⟨rfl, b5⟩
            have HR5 := Lib.hid (HR.out.call b5)
            have HO5 := Lib.hid (HO.out.call b5)
            have HL5 := Lib.hid (show Below w.heap.size w w5 ∧ B1 ≤ w5.heap.size from ⟨HL.out.1.trans (b5.mono HL.out.1.size), Nat.le_trans HL.out.2 b5.size⟩)
            clear b5 HR HO HL c0
            go_wp2_with fail
            refine (cl _ HR5.out).mono ?_; rintro e w6 ⟨rfl, b6⟩
            have HR6 := Lib.hid (HR5.out.call b6)
            have HO6 := Lib.hid (HO5.out.call b6)
            have HL6 := Lib.hid (show Below w.heap.size w w6 ∧ B1 ≤ w6.heap.size from ⟨HL5.out.1.trans (b6.mono HL5.out.1.size), Nat.le_trans HL5.out.2 b6.size⟩)
            clear b6 HR5 HO5 HL5
            go_wp2_with fail
            refine (cr _ HR6.out).mono ?_; rintro e w7 ⟨rfl, b7⟩
            have HR7 := Lib.hid (HR6.out.call b7)
            have HO7 := Lib.hid (HO6.out.call b7)
            have HL7 := Lib.hid (show Below w.heap.size w w7 ∧ B1 ≤ w7.heap.size from ⟨HL6.out.1.trans (b7.mono HL6.out.1.size), Nat.le_trans HL6.out.2 b7.size⟩)
            clear b7 HR6 HO6 HL6 cl cr
            go_wp2
            go_roundw
            case rel => exact ⟨k + 1, t', P2, ao2, cp3, by go_num, rfl, rfl, by omega, ht', by omega, HR7, HO7, HL7⟩
            case measure => first | (simp [intOf]; done) | (simp [intOf]; omega)
      · have hdn : ¬ D < nn := by rw [List.length_drop] at hroom; have := HNN.out.1; omega
        have hput := Lib.hid (show putP N (P.drop t) x = P.drop t by unfold putP; rw [if_neg hroom])
        have hdt : decide ((P.drop t).length < N) = false := by simpa using hroom
        rw [hdt] at cp2
        clear hroom hdt
        go_wp2_with fail
        refine cp2.mono ?_; rintro e w2 ⟨rfl, HR2, b2⟩
        rw [hput.out] at HR2
        have HR4 := Lib.hid HR2
        have HO4 := Lib.hid (HO.out.but b2 HB1.out.1 HB1.out.2.1)
        have HL4 := Lib.hid (show Below w.heap.size w w2 ∧ B1 ≤ w2.heap.size from ⟨HL.out.1.trans (b2.to HG.out.1 HG.out.2 HL.out.1.size), Nat.le_trans HL.out.2 b2.size⟩)
        have hPk2 : P.length ≤ k + 1 := by omega
        clear b2 HR HR2 HO HL cp2 c1 hput
        go_wp2
        clear hPk hD hD0 hD1 hwD hdn
        try go_wp2
        go_loopw [9, 12] (fun q j wr' => ∃ (t' n' : Nat), q = .int .i64 t' ∧ j = .int .i64 n' ∧ n' ≤ K ∧ t' ≤ P.length ∧ Hid (IsR wr' g h N (P.drop t')) ∧ Hid (OwnI wr' B1 (.slice ao P.length cp) P) ∧ Hid (Below w.heap.size w wr' ∧ B1 ≤ wr'.heap.size)) (fun _ j _ => K - (intOf j).toNat)
        case atStart => exact ⟨t, 0, rfl, rfl, by omega, htP, HR4, HO4, HL4⟩
        case round =>
          clear HR4 HO4 HL4
          obtain ⟨t', n', rfl, rfl, hn', ht', HR, HO, HL⟩ := hrel
          have c0 := (HD.out _ HL.out.1).1
          by_cases hjk : n' < K
          · have hjk' : (n' : Int) < K := by omega
            have ct := take_any g h N (P.drop t') _ HR.out
            rw [List.drop_drop] at ct
            by_cases hin : t' < P.length
            · have hin' : (t' : Int) < P.length := by omega
              obtain ⟨y, hy⟩ : ∃ y, P[t'] = y := ⟨_, rfl⟩
              have hde : P.drop t' = y :: P.drop (t' + 1) := by rw [List.drop_eq_getElem_cons hin, hy]
              rw [hde] at ct
              replace ct := ct.mono (fun e w' hh => (show e = .returned (.tuple #[.int .i64 y, .bool true]) ∧ IsR w' g h N (P.drop (t' + 1)) ∧ But2 _ w' g h from ⟨hh.1.trans (by simp), hh.2.1, hh.2.2⟩))
              go_wp2_with fail
              refine ct.mono ?_; rintro e w5 ⟨rfl, HR5, b5⟩
              have HR5 := Lib.hid HR5
              have HO5 := Lib.hid (HO.out.but b5 HB1.out.1 HB1.out.2.1)
              have HL5 := Lib.hid (show Below w.heap.size w w5 ∧ B1 ≤ w5.heap.size from ⟨HL.out.1.trans (b5.to HG.out.1 HG.out.2 HL.out.1.size), Nat.le_trans HL.out.2 b5.size⟩)
              obtain ⟨pp', cc', hve', hrd'⟩ := HO5.out.reads
              cases hve'
              obtain ⟨b', off', hpp', dy⟩ := hrd' t' hin
              subst hpp'
              rw [hy] at dy
              clear b5 HR HO HL ct hy hde hrd' c0
              go_wp2
              go_roundw
              case rel => exact ⟨t' + 1, n' + 1, by go_num, by go_num, by omega, by omega, HR5, HO5, HL5⟩
              case measure => first | (simp [intOf]; done) | (simp [intOf]; omega)
            · obtain rfl : t' = P.length := by omega
              rw [List.drop_length] at ct
              replace ct := ct.mono (fun e w' hh => (show e = .returned (.tuple #[.int .i64 0, .bool false]) ∧ IsR w' g h N (P.drop P.length) ∧ But2 _ w' g h from ⟨hh.1.trans (by simp), by have := hh.2.1; rw [List.drop_eq_nil_of_le (by omega)] at this; rw [List.drop_length]; exact this, hh.2.2⟩))
              go_wp2_with fail
              refine ct.mono ?_; rintro e w5 ⟨rfl, HR5, b5⟩
              have HR5 := Lib.hid HR5
              have HO5 := Lib.hid (HO.out.but b5 HB1.out.1 HB1.out.2.1)
              have HL5 := Lib.hid (show Below w.heap.size w w5 ∧ B1 ≤ w5.heap.size from ⟨HL.out.1.trans (b5.to HG.out.1 HG.out.2 HL.out.1.size), Nat.le_trans HL.out.2 b5.size⟩)
              clear b5 HR HO HL ct c0
              go_wp2
              go_roundw
              case rel => exact ⟨P.length, n' + 1, rfl, by go_num, by omega, by omega, HR5, HO5, HL5⟩
              case measure => first | (simp [intOf]; done) | (simp [intOf]; omega)
          · obtain rfl : n' = K := by omega
            obtain ⟨D2, hD2⟩ : ∃ D2 : Int, (P.length : Int) - t' = D2 := ⟨_, rfl⟩
            have hwD2 : IntKind.i64.wrap D2 = D2 := IntWalk.i64_in _ (by omega)
            obtain ⟨Q2, hQ2⟩ : ∃ Q2 : Int, nn - D2 = Q2 := ⟨_, rfl⟩
            have hdl : ((P.drop t').length : Int) = D2 := by rw [List.length_drop]; omega
            have hsum : IntKind.i64.wrap (D2 + Q2) = nn := by rw [IntWalk.i64_in _ (by omega)]; omega
            have hsum2 : D2 + Q2 = nn := by omega
            have hdr : (N : Int) - (P.drop t').length = Q2 := by rw [hdl, HNN.out.1]; exact hQ2
            have cl := fun W (hR : IsR W g h N (P.drop t')) => len_any g h N (P.drop t') W hR
            have cr := fun W (hR : IsR W g h N (P.drop t')) => room_any g h N (P.drop t') W hR
            rw [hdl] at cl
            rw [hdr] at cr
            clear hdl hdr hQ2
            go_wp2_with fail
            refine (cl _ HR.out).mono ?_; rintro e w5 ⟨rfl, b5⟩
            have HR5 := Lib.hid (HR.out.call b5)
            have HO5 := Lib.hid (HO.out.call b5)
            have HL5 := Lib.hid (show Below w.heap.size w w5 ∧ B1 ≤ w5.heap.size from ⟨HL.out.1.trans (b5.mono HL.out.1.size), Nat.le_trans HL.out.2 b5.size⟩)
            clear b5 HR HO HL c0
            go_wp2_with fail
            refine (cl _ HR5.out).mono ?_; rintro e w6 ⟨rfl, b6⟩
            have HR6 := Lib.hid (HR5.out.call b6)
            have HO6 := Lib.hid (HO5.out.call b6)
            have HL6 := Lib.hid (show Below w.heap.size w w6 ∧ B1 ≤ w6.heap.size from ⟨HL5.out.1.trans (b6.mono HL5.out.1.size), Nat.le_trans HL5.out.2 b6.size⟩)
            clear b6 HR5 HO5 HL5
            go_wp2_with fail
            refine (cr _ HR6.out).mono ?_; rintro e w7 ⟨rfl, b7⟩
            have HR7 := Lib.hid (HR6.out.call b7)
            have HO7 := Lib.hid (HO6.out.call b7)
            have HL7 := Lib.hid (show Below w.heap.size w w7 ∧ B1 ≤ w7.heap.size from ⟨HL6.out.1.trans (b7.mono HL6.out.1.size), Nat.le_trans HL6.out.2 b7.size⟩)
            clear b7 HR6 HO6 HL6 cl cr
            go_wp2
            go_roundw
            case rel => exact ⟨k + 1, t', P, ao, cp, by go_num, rfl, rfl, by omega, ht', by omega, HR7, HO7, HL7⟩
            case measure => first | (simp [intOf]; done) | (simp [intOf]; omega)
    · obtain rfl : k = l.length := by omega
      go_wp2_with fail
      refine (awake_any _).mono ?_; rintro e w2 ⟨rfl, hb2⟩
      have HB2 := Lib.hid (HL.out.1.trans (hb2.mono HL.out.1.size))
      clear hb2
      go_wp2
      go_ret
      exact ⟨rfl, HB2.out⟩

set_option maxRecDepth 100000 in
theorem forder_lifted (os : Os) (started : os.Started) (H : Type) (enc : TypeId × Value → H) :
    ReturnsInHanded {} Try.checked os 5 .any (Rows.fifoOrderSpec.pre6 enc Try.prog Try.f5 Rows.fifoOrderRow.domain false) (Rows.fifoOrderSpec.post enc Try.prog Try.f5 false true false false) := by
  refine returnsInHanded_of_change (C := Try.checked) own started (by kernel_rfl) Try.func5
    (ChangeSpec.witness6 (enc := enc) (C := Try.checked) false ⟨#[], #[.int .u8 0, .slice none 0 0], []⟩ 8 (by kernel_rfl) (by kernel_rfl) (by kernel_rfl) (by kernel_rfl)) ?_
  intro W base args ds gs before hval0 hW hcnd _
  have hval : ∀ (j : Nat) t v, Try.f5.params[j]? = some t → args[j]? = some v → Value.okWide Try.prog W .any base t v := hval0
  have hW' := hW
  obtain ⟨p, q, hA0, hV, rfl, hfz, hnd⟩ := hW
  have hA : DataW.TrodAll enc Try.prog W 0 (fun _ => true) true Try.f5.params.toList args.toList ds p := hA0
  rw [Try.params5] at hA hval
  obtain ⟨v0, vs0, d0, ds0, p0, q0, hargs, rfl, rfl, h0, r0⟩ := trodAll_cons hA
  obtain ⟨v1, vs1, d1, ds1, p1, q1, rfl, rfl, rfl, h1, r1⟩ := trodAll_cons r0
  obtain ⟨rfl, rfl, rfl⟩ := trodAll_nil r1
  obtain rfl : args = #[v0, v1] := by cases args; simp_all
  obtain ⟨rfl, rfl⟩ := trodVars_none hV
  obtain ⟨r, rfl, rfl, rfl, wr⟩ := open_int Try.underlying5 (hval 0 5 v0 rfl rfl) h0
  obtain ⟨l, hl, _, hby⟩ := open_cals (hval 1 22 v1 rfl rfl) h1
  refine (forder_walk r v1 l W (bounds_u8 wr) hl hby).mono fun e W' ⟨he, hb⟩ => ?_
  subst he
  exact ⟨_, rfl, law_post rfl rfl Try.underlying4 (by kernel_rfl) rfl hW' hb⟩
theorem forder_holds : Rows.FifoOrderSaid :=
  OpenClaim.holds_of_wide 5 Try.f5 rfl rfl rfl rfl rfl rfl rfl ⟨rfl, rfl, rfl, rfl, rfl⟩ rfl rfl rfl rfl rfl (by kernel_rfl) Try.func5 (by kernel_rfl)
    (of_decide_eq_true (by kernel_rfl)) (by unfold Func.isWrapper; first | (rw [if_pos (by decide +kernel)]; kernel_rfl) | (rw [if_neg (by decide +kernel)]; exact ⟨rfl, rfl⟩))
    (fun os started H enc _ => forder_lifted os started H enc)
end Go.Proofs.Ytphgilgmoeliaaa
