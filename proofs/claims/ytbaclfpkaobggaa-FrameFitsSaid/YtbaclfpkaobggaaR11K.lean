/- Layer 11, the program's: texts that are joined; how many fit. -/
import Derived.Test.YtbaclfpkaobggaaR11E
import Derived.Test.YtbaclfpkaobggaaBld
namespace Go.Proofs.Ytbaclfpkaobggaa
open Go.RowKit Go.Shelf
open Go.Lib (byteCells)
set_option linter.unusedVariables false
set_option linter.unusedSimpArgs false

theorem sc_fr (l : List UInt8) : Lib.strCells ⟨l.toArray⟩ = byteCells l := by unfold Lib.strCells byteCells; simp
theorem jnK_list (l : List ByteArray) (k : Nat) : jnK l k = ⟨((l.take k).flatMap frmB).toArray⟩ := rfl
theorem frms_next {l : List ByteArray} {k : Nat} (hk : k < l.length) : (l.take (k + 1)).flatMap frmB = (l.take k).flatMap frmB ++ frmB l[k] := by
  rw [List.take_succ_eq_append_getElem hk, List.flatMap_append, List.flatMap_cons, List.flatMap_nil, List.append_nil]
set_option maxRecDepth 100000 in
set_option maxHeartbeats 4000000 in
theorem fjoin_any (v : Value) (l : List ByteArray) (w : World) (hv : IsS w v l) (hl : l.length ≤ 1000000) (hs : ∀ s ∈ l, s.size ≤ 1000000) :
    Calls Try.prog 19 #[v] w fun e w' => e = .returned (.tuple #[.string (jnT l), .int .i64 (jnE l)]) ∧ Below w.heap.size w w' := by
  obtain ⟨p, cap, rfl, hp⟩ := hv
  have HP := Lib.hid hp
  have HS := Lib.hid hs
  clear hp hs
  have hnew := Lib.fresh_isBuilder 63 5 w
  go_enter Try.func19, Try.ntmps19
  go_wp2
  go_loopw [11] (fun i wr => ∃ k : Nat, i = .int .i64 k ∧ k ≤ l.length ∧ (∀ j (h : j < l.length), j < k → okF l[j]) ∧ IsBld w.heap.size w.heap.size (byteCells ((l.take k).flatMap frmB)) wr ∧ Below w.heap.size w wr) (fun i _ => l.length - (intOf i).toNat)
  case atStart => exact ⟨0, rfl, Nat.zero_le _, fun j hj h => by omega, hnew, by (repeat (first | (with_reducible exact Below.refl _ _) | ((with_reducible refine below_alloc ?_ ?_ _); · (first | omega | (simp; done) | (simp; omega))) | ((with_reducible refine below_setCell ?_ ?_ _); · (first | omega | (simp; done) | (simp; omega))) | (with_reducible refine Below.drew ?_) | (with_reducible refine below_drewN ?_ _) | ((with_reducible refine below_call (by assumption) ?_ ?_); · (first | omega | (simp; done) | (simp; omega)))))⟩
  case round =>
    clear hnew
    obtain ⟨k, rfl, hk, hok, hbld, hB⟩ := hrel
    have HO := Lib.hid hok
    have HB := Lib.hid hbld
    have hz := hB.size
    clear hok hbld
    by_cases hlt : k < l.length
    · have hlt' : (k : Int) < l.length := by omega
      obtain ⟨b, off, rfl, hc⟩ := HP.out k hlt
      have hc' := (hB.cell (p := ⟨b, off + k, none⟩) (World.block_lt_of_cell? _ _ hc)).trans hc
      have c := Lib.hid (fun W => fput_any l[k] W (HS.out _ (List.getElem_mem hlt)))
      by_cases hE : fpE l[k] = 0
      · have HN := Lib.hid (frms_next hlt)
        have hsz := jnK_size (l := l) k HO.out
        rw [jnK_list, size_mk] at hsz
        have hfz := (fpE_ok.1 hE).2
        have hfl := frmB_len l[k]
        have HG := Lib.hid (show ∀ j (h : j < l.length), j < k + 1 → okF l[j] from fun j hj h => by
          by_cases e : j = k
          · subst e; exact fpE_ok.1 hE
          · exact HO.out j hj (by omega))
        rw [hE, fpT_ok (fpE_ok.1 hE)] at c
        have hlen : (frmB l[k]).length ≤ 130 := by omega
        generalize (l.take k).flatMap frmB = o at HN hsz HB
        generalize frmB l[k] = f at c HN hlen
        have hwr := fun W (hb : Below wr.heap.size wr W) => bld_write w.heap.size w.heap.size (byteCells o) ⟨f.toArray⟩ W (HB.out.call hb) (by rw [Lib.byteCells_length, size_mk]; omega) (Nat.le_trans hz hb.size)
        have HW := Lib.hid hwr
        generalize l[k] = s at c hc'
        clear hE hc hwr hfz hfl hsz hlen
        go_wp2_with fail
        refine (c.out _).mono ?_; rintro e w1 ⟨rfl, hb1⟩
        go_wp2_with fail
        refine (HW.out _ hb1).mono ?_; rintro e w2 ⟨rfl, hb2, hbel2⟩
        have B2 : Below w.heap.size w w2 := (hB.trans (hb1.mono hz)).trans hbel2
        go_wp2
        go_roundw
        case rel =>
          refine ⟨k + 1, by go_num, by omega, HG.out, ?_, B2⟩
          rw [sc_fr] at hb2
          rw [HN.out, show byteCells (o ++ f) = byteCells o ++ byteCells f by simp [byteCells]]
          exact hb2
        case measure => simp [intOf]; omega
      · have H1 := Lib.hid (jn_first hlt HO.out hE)
        have H2 : Hid (jnT l = ⟨#[]⟩) := Lib.hid (by unfold jnT; rw [H1.out, if_neg hE])
        have e0 : (fpE l[k] != 0) = true := by simp [hE]
        generalize fpT l[k] = f at c
        generalize fpE l[k] = E at c e0 H1
        generalize l[k] = s at c hc'
        clear hE hc
        go_wp2_with fail
        refine (c.out _).mono ?_; rintro e w1 ⟨rfl, hb1⟩
        have B1 : Below w.heap.size w w1 := by (repeat (first | (with_reducible exact Below.refl _ _) | ((with_reducible refine below_alloc ?_ ?_ _); · (first | omega | (simp; done) | (simp; omega))) | ((with_reducible refine below_setCell ?_ ?_ _); · (first | omega | (simp; done) | (simp; omega))) | (with_reducible refine Below.drew ?_) | (with_reducible refine below_drewN ?_ _) | ((with_reducible refine below_call (by assumption) ?_ ?_); · (first | omega | (simp; done) | (simp; omega)))))
        go_wp2
        go_ret2
        exact ⟨by rw [H1.out, H2.out]; rfl, B1⟩
    · obtain rfl : k = l.length := by omega
      obtain ⟨h1, h2⟩ := jn_whole (fun j hj => HO.out j hj hj)
      have H1 := Lib.hid h1
      have H2 : Hid (jnT l = ⟨(l.flatMap frmB).toArray⟩) := Lib.hid (by rw [h2, jnK_list, List.take_length])
      have hbld := HB.out
      rw [List.take_length] at hbld
      have hst := Lib.hid (bld_string w.heap.size w.heap.size (l.flatMap frmB) wr hbld hz)
      generalize l.flatMap frmB = o at H2 hst
      clear h1 h2 hbld HB
      go_wp2_with fail
      refine hst.out.mono ?_; rintro e w1 ⟨rfl, hb1⟩
      go_wp2
      go_ret2
      exact ⟨by rw [H1.out, H2.out]; rfl, hB.trans hb1⟩
set_option maxRecDepth 100000 in
set_option maxHeartbeats 4000000 in
theorem ffit_any (v : Value) (l : List ByteArray) (m : Int) (w : World) (hv : IsS w v l) (hl : l.length ≤ 1000000) (hs : ∀ s ∈ l, s.size ≤ 1000000) (hm : -9223372036854775808 ≤ m) (hm' : m ≤ 9223372036854775807) :
    Calls Try.prog 21 #[v, .int .i64 m] w fun e w' => e = .returned (.int .i64 (fitN l m : Int)) ∧ Below w.heap.size w w' := by
  obtain ⟨p, cap, rfl, hp⟩ := hv
  have HP := Lib.hid hp
  have HS := Lib.hid hs
  clear hp hs
  go_enter Try.func21, Try.ntmps21
  go_wp2
  go_loopw [11, 1, 5] (fun i o c wr => ∃ (k : Nat) (m' : Int), i = .int .i64 k ∧ k ≤ l.length ∧ o = .int .i64 m' ∧ c = .int .i64 k ∧ m' ≤ m ∧ (0 ≤ m' ∨ m' = m) ∧ fitN l m = k + fitN (l.drop k) m' ∧ Below w.heap.size w wr) (fun i _ _ _ => l.length - (intOf i).toNat)
  case atStart => exact ⟨0, m, rfl, Nat.zero_le _, rfl, rfl, Int.le_refl _, .inr rfl, by simp, Below.refl _ _⟩
  case round =>
    obtain ⟨k, m', rfl, hk, rfl, rfl, h1, h2, hf, hB⟩ := hrel
    have HF := Lib.hid hf
    have H2 := Lib.hid h2
    have hz := hB.size
    clear hf h2
    by_cases hlt : k < l.length
    · have hlt' : (k : Int) < l.length := by omega
      obtain ⟨b, off, rfl, hc⟩ := HP.out k hlt
      have hc' := (hB.cell (p := ⟨b, off + k, none⟩) (World.block_lt_of_cell? _ _ hc)).trans hc
      have hle := fsz_le l[k]
      have c := Lib.hid (fun W => fsize_any l[k] W (HS.out _ (List.getElem_mem hlt)))
      by_cases g : 0 < fsz l[k] ∧ (fsz l[k] : Int) ≤ m'
      · have HN := Lib.hid (fit_go hlt HF.out g)
        have g1 : ((fsz l[k] : Int) == 0) = false := by simp; omega
        have g2 : ¬ (m' < (fsz l[k] : Int)) := by have := g.2; omega
        have g3 := g.1
        have g4 := g.2
        have hw : IntKind.i64.wrap (m' - (fsz l[k] : Int)) = m' - fsz l[k] := IntWalk.i64_in _ (by omega)
        generalize fsz l[k] = z at c HN g1 g2 hw hle g g3 g4
        generalize l[k] = s at c hc'
        clear g hc
        go_wp2_with fail
        refine (c.out _).mono ?_; rintro e w1 ⟨rfl, hb1⟩
        have B1 : Below w.heap.size w w1 := by (repeat (first | (with_reducible exact Below.refl _ _) | ((with_reducible refine below_alloc ?_ ?_ _); · (first | omega | (simp; done) | (simp; omega))) | ((with_reducible refine below_setCell ?_ ?_ _); · (first | omega | (simp; done) | (simp; omega))) | (with_reducible refine Below.drew ?_) | (with_reducible refine below_drewN ?_ _) | ((with_reducible refine below_call (by assumption) ?_ ?_); · (first | omega | (simp; done) | (simp; omega)))))
        go_wp2
        go_roundw
        case rel => exact ⟨k + 1, m' - z, by go_num, by omega, by go_num, by go_num, by omega, .inl (by omega), by simpa using HN.out, B1⟩
        case measure => simp [intOf]; omega
      · have HN := Lib.hid (fit_stop hlt HF.out g)
        by_cases g1 : 0 < fsz l[k]
        · have g1' : ((fsz l[k] : Int) == 0) = false := by simp; omega
          have g2 : m' < (fsz l[k] : Int) := Int.not_le.1 (fun h => g ⟨g1, h⟩)
          generalize fsz l[k] = z at c g1' g2 hle
          generalize l[k] = s at c hc'
          clear g g1 hc
          go_wp2_with fail
          refine (c.out _).mono ?_; rintro e w1 ⟨rfl, hb1⟩
          have B1 : Below w.heap.size w w1 := by (repeat (first | (with_reducible exact Below.refl _ _) | ((with_reducible refine below_alloc ?_ ?_ _); · (first | omega | (simp; done) | (simp; omega))) | ((with_reducible refine below_setCell ?_ ?_ _); · (first | omega | (simp; done) | (simp; omega))) | (with_reducible refine Below.drew ?_) | (with_reducible refine below_drewN ?_ _) | ((with_reducible refine below_call (by assumption) ?_ ?_); · (first | omega | (simp; done) | (simp; omega)))))
          go_wp2
          go_ret
          exact ⟨ret_int (by rw [HN.out]), B1⟩
        · have g1' : ((fsz l[k] : Int) == 0) = true := by simp; omega
          generalize fsz l[k] = z at c g1' hle
          generalize l[k] = s at c hc'
          clear g g1 hc
          go_wp2_with fail
          refine (c.out _).mono ?_; rintro e w1 ⟨rfl, hb1⟩
          have B1 : Below w.heap.size w w1 := by (repeat (first | (with_reducible exact Below.refl _ _) | ((with_reducible refine below_alloc ?_ ?_ _); · (first | omega | (simp; done) | (simp; omega))) | ((with_reducible refine below_setCell ?_ ?_ _); · (first | omega | (simp; done) | (simp; omega))) | (with_reducible refine Below.drew ?_) | (with_reducible refine below_drewN ?_ _) | ((with_reducible refine below_call (by assumption) ?_ ?_); · (first | omega | (simp; done) | (simp; omega)))))
          go_wp2
          go_ret
          exact ⟨ret_int (by rw [HN.out]), B1⟩
    · obtain rfl : k = l.length := by omega
      have HN := Lib.hid (fit_fin HF.out)
      go_wp2
      go_ret
      exact ⟨ret_int (by rw [HN.out]), hB⟩
end Go.Proofs.Ytbaclfpkaobggaa
