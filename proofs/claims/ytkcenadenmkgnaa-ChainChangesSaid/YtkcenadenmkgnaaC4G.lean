/- Contracts of layer 4, the document's: Same. -/
import Derived.Test.YtkcenadenmkgnaaC4F
import Derived.Test.YtkcenadenmkgnaaSameI
namespace Go.Proofs.Ytkcenadenmkgnaa
open Go.RowKit
set_option linter.unusedVariables false
set_option linter.unusedSimpArgs false

def sameLB (a b : LSt) : Bool := decide (a.1 = b.1) && (sameIB a.2.1 b.2.1 && sameIB a.2.2 b.2.2)
theorem sameLB_len {a b : LSt} (h : a.1.length ≠ b.1.length) : sameLB a b = false := by
  unfold sameLB; rw [decide_eq_false (fun e => h (by rw [e]))]; rfl
theorem sameLB_at {a b : LSt} {k : Nat} (h1 : k < a.1.length) (h2 : k < b.1.length) (h : a.1[k] ≠ b.1[k]) : sameLB a b = false := by
  unfold sameLB; rw [decide_eq_false (fun e => h (by simp only [e]))]; rfl
theorem sameLB_all {a b : LSt} (h : a.1.length = b.1.length) (he : ∀ j (h1 : j < a.1.length) (h2 : j < b.1.length), a.1[j] = b.1[j]) : sameLB a b = (sameIB a.2.1 b.2.1 && sameIB a.2.2 b.2.2) := by
  unfold sameLB; rw [decide_eq_true (List.ext_getElem h he)]; rfl

set_option maxRecDepth 100000 in
set_option maxHeartbeats 4000000 in
theorem refsame4_any (vc vh vt uc uh ut : Value) (a b : LSt) (w : World) (hv : IsLS w vc vh vt a) (hu : IsLS w uc uh ut b) (hl : a.1.length ≤ 1048576) (hf : a.2.1.length ≤ 1048576) (hg : a.2.2.length ≤ 1048576) (hl2 : b.1.length ≤ 1048576) :
    Calls Try.prog 16 #[.agg #[vc, vh, vt], .agg #[uc, uh, ut]] w fun e w' => e = .returned (.bool (sameLB a b)) ∧ Below w.heap.size w w' := by
  obtain ⟨l, hd, tl⟩ := a
  obtain ⟨m, hd2, tl2⟩ := b
  replace hl : l.length ≤ 1048576 := hl
  replace hf : hd.length ≤ 1048576 := hf
  replace hg : tl.length ≤ 1048576 := hg
  replace hl2 : m.length ≤ 1048576 := hl2
  have hv0 := hv
  have hu0 := hu
  obtain ⟨⟨pc, cc, rfl, hp⟩, ⟨ph, ch, rfl, -⟩, ⟨pt, ct, rfl, -⟩⟩ := hv
  obtain ⟨⟨qc, dc, rfl, hp2⟩, ⟨qh, dh, rfl, -⟩, ⟨qt, dt, rfl, -⟩⟩ := hu
  have Hp := Lib.hid hp
  have Hp2 := Lib.hid hp2
  have Hv := Lib.hid hv0
  have Hu := Lib.hid hu0
  clear hp hv0 hp2 hu0
  by_cases hlen : l.length = m.length
  · have hx : ((l.length : Int) != m.length) = false := by simp [hlen]
    have HL := Lib.hid hlen
    have hle : (l.length : Int) ≤ m.length := by omega
    clear hlen
    go_enter Try.func16, Try.ntmps16
    go_wp2
    obtain ⟨W, hW⟩ : ∃ W, (w.alloc (.cells #[.slice pc l.length cc, .slice ph hd.length ch, .slice pt tl.length ct] 25)).alloc (.cells #[.slice qc m.length dc, .slice qh hd2.length dh, .slice qt tl2.length dt] 25) = W := ⟨_, rfl⟩
    have e0 : W.cell? ⟨w.heap.size, 0, none⟩ = some (.slice pc l.length cc) := by rw [← hW]; simp [go_sem]
    have e1 : W.cell? ⟨w.heap.size, 1, none⟩ = some (.slice ph hd.length ch) := by rw [← hW]; simp [go_sem]
    have e2 : W.cell? ⟨w.heap.size, 2, none⟩ = some (.slice pt tl.length ct) := by rw [← hW]; simp [go_sem]
    have e3 : W.cell? ⟨w.heap.size + 1, 0, none⟩ = some (.slice qc m.length dc) := by rw [← hW]; simp [go_sem]
    have e4 : W.cell? ⟨w.heap.size + 1, 1, none⟩ = some (.slice qh hd2.length dh) := by rw [← hW]; simp [go_sem]
    have e5 : W.cell? ⟨w.heap.size + 1, 2, none⟩ = some (.slice qt tl2.length dt) := by rw [← hW]; simp [go_sem]
    have hB : Below w.heap.size w W := by rw [← hW]; exact ((Below.refl _ _).alloc (Nat.le_refl _) _).alloc (by simp) _
    rw [hW]
    clear hW
    go_loopw [5] (fun i wr => ∃ k : Nat, i = .int .i64 k ∧ k ≤ l.length ∧ (∀ j (h1 : j < l.length) (h2 : j < m.length), j < k → l[j] = m[j]) ∧ wr.cell? ⟨w.heap.size, 0, none⟩ = some (.slice pc l.length cc) ∧ wr.cell? ⟨w.heap.size, 1, none⟩ = some (.slice ph hd.length ch) ∧ wr.cell? ⟨w.heap.size, 2, none⟩ = some (.slice pt tl.length ct) ∧ wr.cell? ⟨w.heap.size + 1, 0, none⟩ = some (.slice qc m.length dc) ∧ wr.cell? ⟨w.heap.size + 1, 1, none⟩ = some (.slice qh hd2.length dh) ∧ wr.cell? ⟨w.heap.size + 1, 2, none⟩ = some (.slice qt tl2.length dt) ∧ Below w.heap.size w wr) (fun i _ => l.length - (intOf i).toNat)
    case atStart => exact ⟨0, rfl, by omega, fun j h1 h2 h => by omega, e0, e1, e2, e3, e4, e5, hB⟩
    case round =>
      clear e0 e1 e2 e3 e4 e5 hB
      obtain ⟨k, rfl, hk, hok, e0, e1, e2, e3, e4, e5, hB⟩ := hrel
      have HK := Lib.hid hok
      clear hok
      by_cases hlt : k < l.length
      · have hlt' : (k : Int) < l.length := by omega
        have hlt2 : k < m.length := by have := HL.out; omega
        have hlt2' : (k : Int) < m.length := by omega
        obtain ⟨b, off, rfl, d0, d1, d2⟩ := Hp.out k hlt
        obtain ⟨b2, off2, rfl, f0, f1, f2⟩ := Hp2.out k hlt2
        have c0 := (hB.cell (p := ⟨b, off + k * 3, none⟩) (World.block_lt_of_cell? _ _ d0)).trans d0
        have c1 := (hB.cell (p := ⟨b, off + k * 3 + 1, none⟩) (World.block_lt_of_cell? _ _ d1)).trans d1
        have c2 := (hB.cell (p := ⟨b, off + k * 3 + 2, none⟩) (World.block_lt_of_cell? _ _ d2)).trans d2
        have g0 := (hB.cell (p := ⟨b2, off2 + k * 3, none⟩) (World.block_lt_of_cell? _ _ f0)).trans f0
        have g1 := (hB.cell (p := ⟨b2, off2 + k * 3 + 1, none⟩) (World.block_lt_of_cell? _ _ f1)).trans f1
        have g2 := (hB.cell (p := ⟨b2, off2 + k * 3 + 2, none⟩) (World.block_lt_of_cell? _ _ f2)).trans f2
        clear d0 d1 d2 f0 f1 f2
        obtain ⟨c, hc⟩ : ∃ c, l[k] = c := ⟨_, rfl⟩
        obtain ⟨d, hd⟩ : ∃ d, m[k] = d := ⟨_, rfl⟩
        rw [hc] at c0 c1 c2
        rw [hd] at g0 g1 g2
        have HC := Lib.hid (And.intro hc hd)
        clear hc hd
        obtain ⟨x, y, z⟩ := c
        obtain ⟨x', y', z'⟩ := d
        by_cases hx1 : x = x'
        · subst hx1
          by_cases hy1 : y = y'
          · subst hy1
            by_cases hz1 : z = z'
            · subst hz1
              go_wp2
              go_quiet (fail)
              go_wp2
              go_round
              case rel => exact ⟨k + 1, by go_num, by omega, fun j h1 h2 hj => by
                by_cases e : j = k
                · subst e; rw [HC.out.1, HC.out.2]
                · exact HK.out j h1 h2 (by omega), by simpa [go_sem] using e0, by simpa [go_sem] using e1, by simpa [go_sem] using e2, by simpa [go_sem] using e3, by simpa [go_sem] using e4, by simpa [go_sem] using e5, by (repeat (first | (with_reducible exact Below.refl _ _) | ((with_reducible refine below_alloc ?_ ?_ _); · (first | omega | (simp; done) | (simp; omega))) | ((with_reducible refine below_setCell ?_ ?_ _); · (first | omega | (simp; done) | (simp; omega))) | (with_reducible refine Below.drew ?_) | (with_reducible refine below_drewN ?_ _) | ((with_reducible refine below_call (by assumption) ?_ ?_); · (first | omega | (simp; done) | (simp; omega)))))⟩
              case measure => simp [intOf]; omega
            · have HNE := Lib.hid (show ((x, y, z) : Nod) ≠ (x, y, z') from fun e => hz1 (by cases e; rfl))
              go_wp2
              go_quiet (fail)
              go_wp2
              go_ret
              refine ⟨ret_bool ?_, by (repeat (first | (with_reducible exact Below.refl _ _) | ((with_reducible refine below_alloc ?_ ?_ _); · (first | omega | (simp; done) | (simp; omega))) | ((with_reducible refine below_setCell ?_ ?_ _); · (first | omega | (simp; done) | (simp; omega))) | (with_reducible refine Below.drew ?_) | (with_reducible refine below_drewN ?_ _) | ((with_reducible refine below_call (by assumption) ?_ ?_); · (first | omega | (simp; done) | (simp; omega)))))⟩
              exact (sameLB_at (a := (l, hd, tl)) (b := (m, hd2, tl2)) hlt hlt2 (by show l[k] ≠ m[k]; rw [HC.out.1, HC.out.2]; exact HNE.out)).symm
          · have HNE := Lib.hid (show ((x, y, z) : Nod) ≠ (x, y', z') from fun e => hy1 (by cases e; rfl))
            go_wp2
            go_quiet (fail)
            go_wp2
            go_ret
            refine ⟨ret_bool ?_, by (repeat (first | (with_reducible exact Below.refl _ _) | ((with_reducible refine below_alloc ?_ ?_ _); · (first | omega | (simp; done) | (simp; omega))) | ((with_reducible refine below_setCell ?_ ?_ _); · (first | omega | (simp; done) | (simp; omega))) | (with_reducible refine Below.drew ?_) | (with_reducible refine below_drewN ?_ _) | ((with_reducible refine below_call (by assumption) ?_ ?_); · (first | omega | (simp; done) | (simp; omega)))))⟩
            exact (sameLB_at (a := (l, hd, tl)) (b := (m, hd2, tl2)) hlt hlt2 (by show l[k] ≠ m[k]; rw [HC.out.1, HC.out.2]; exact HNE.out)).symm
        · have HNE := Lib.hid (show ((x, y, z) : Nod) ≠ (x', y', z') from fun e => hx1 (by cases e; rfl))
          go_wp2
          go_quiet (fail)
          go_wp2
          go_ret
          refine ⟨ret_bool ?_, by (repeat (first | (with_reducible exact Below.refl _ _) | ((with_reducible refine below_alloc ?_ ?_ _); · (first | omega | (simp; done) | (simp; omega))) | ((with_reducible refine below_setCell ?_ ?_ _); · (first | omega | (simp; done) | (simp; omega))) | (with_reducible refine Below.drew ?_) | (with_reducible refine below_drewN ?_ _) | ((with_reducible refine below_call (by assumption) ?_ ?_); · (first | omega | (simp; done) | (simp; omega)))))⟩
          exact (sameLB_at (a := (l, hd, tl)) (b := (m, hd2, tl2)) hlt hlt2 (by show l[k] ≠ m[k]; rw [HC.out.1, HC.out.2]; exact HNE.out)).symm
      · obtain rfl : k = l.length := by omega
        have hsz := hB.size
        have hS := sameInts_any _ _ hd hd2 wr (Hv.out.2.1.call hB) (Hu.out.2.1.call hB) (by omega)
        cases hh : sameIB hd hd2 with
        | true =>
          rw [hh] at hS
          have HH := Lib.hid hh
          clear hh
          go_wp2_with (go_at_call 24; refine hS.mono ?_; rintro e w1 ⟨rfl, hb1⟩; have k2 := (hb1.cell (p := ⟨w.heap.size, 2, none⟩) (World.block_lt_of_cell? _ _ e2)).trans e2; have k5 := (hb1.cell (p := ⟨w.heap.size + 1, 2, none⟩) (World.block_lt_of_cell? _ _ e5)).trans e5; clear hS)
          have hS2 := sameInts_any _ _ tl tl2 w1 ((Hv.out.2.2.call hB).call hb1) ((Hu.out.2.2.call hB).call hb1) (by omega)
          go_wp2_with (go_at_call 24; refine hS2.mono ?_; rintro e w2 ⟨rfl, hb2⟩)
          go_ret
          exact ⟨ret_bool (by rw [sameLB_all (a := (l, hd, tl)) (b := (m, hd2, tl2)) HL.out (fun j h1 h2 => HK.out j h1 h2 h1), HH.out]; first | done | rfl | simp), Below.trans (Below.trans hB (hb1.mono hB.size)) (hb2.mono (Nat.le_trans hB.size hb1.size))⟩
        | false =>
          rw [hh] at hS
          have HH := Lib.hid hh
          clear hh
          go_wp2_with (go_at_call 24; refine hS.mono ?_; rintro e w1 ⟨rfl, hb1⟩)
          go_ret
          exact ⟨ret_bool (by rw [sameLB_all (a := (l, hd, tl)) (b := (m, hd2, tl2)) HL.out (fun j h1 h2 => HK.out j h1 h2 h1), HH.out]; first | done | rfl | simp), by (repeat (first | (with_reducible exact Below.refl _ _) | ((with_reducible refine below_alloc ?_ ?_ _); · (first | omega | (simp; done) | (simp; omega))) | ((with_reducible refine below_setCell ?_ ?_ _); · (first | omega | (simp; done) | (simp; omega))) | (with_reducible refine Below.drew ?_) | (with_reducible refine below_drewN ?_ _) | ((with_reducible refine below_call (by assumption) ?_ ?_); · (first | omega | (simp; done) | (simp; omega)))))⟩
  · have hx : ((l.length : Int) != m.length) = true := by simp; omega
    have HN := Lib.hid (sameLB_len (a := (l, hd, tl)) (b := (m, hd2, tl2)) hlen)
    clear hlen
    go_enter Try.func16, Try.ntmps16
    go_wp2
    go_ret
    exact ⟨ret_bool HN.out.symm, by (repeat (first | (with_reducible exact Below.refl _ _) | ((with_reducible refine below_alloc ?_ ?_ _); · (first | omega | (simp; done) | (simp; omega))) | ((with_reducible refine below_setCell ?_ ?_ _); · (first | omega | (simp; done) | (simp; omega))) | (with_reducible refine Below.drew ?_) | (with_reducible refine below_drewN ?_ _) | ((with_reducible refine below_call (by assumption) ?_ ?_); · (first | omega | (simp; done) | (simp; omega)))))⟩
end Go.Proofs.Ytkcenadenmkgnaa
