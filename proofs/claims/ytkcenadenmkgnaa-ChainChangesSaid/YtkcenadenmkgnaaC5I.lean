/- Contracts of layer 4, the program's: Same. -/
import Derived.Test.YtkcenadenmkgnaaC4G
namespace Go.Proofs.Ytkcenadenmkgnaa
open Go.RowKit
set_option linter.unusedVariables false
set_option linter.unusedSimpArgs false

set_option maxRecDepth 100000 in
set_option maxHeartbeats 1000000 in
theorem equalI_any (v1 v2 : Value) (a b : List Int) (w : World) (hv1 : IsI w v1 a) (hv2 : IsI w v2 b) (ha : a.length ≤ 1048576) :
    Calls Try.prog 58 #[v1, v2] w fun e w' => e = .returned (.bool (sameIB a b)) ∧ Below w.heap.size w w' := by
  obtain ⟨p1, cap1, rfl, hp1⟩ := hv1
  obtain ⟨p2, cap2, rfl, hp2⟩ := hv2
  by_cases hl : a.length = b.length
  · have H1 := Lib.hid hp1
    have H2 := Lib.hid hp2
    have HL := Lib.hid hl
    rw [← hl]
    have hl1 : ((a.length : Int) != a.length) = false := by simp
    clear hp1 hp2 hl
    go_enter Try.func58, Try.ntmps58
    go_wp2
    go_loopw [13] (fun i wr => ∃ k : Nat, k ≤ a.length ∧ i = .int .i64 k ∧ (∀ j (hj : j < k) (h1 : j < a.length) (h2 : j < b.length), a[j] = b[j]) ∧ Below w.heap.size w wr) (fun i wr => a.length - (intOf i).toNat)
    case atStart => exact ⟨0, by omega, rfl, fun j hj => by omega, Below.refl _ _⟩
    case round =>
      obtain ⟨k, hk, rfl, hok, hB⟩ := hrel
      have HO := Lib.hid hok
      clear hok hl1
      by_cases hlt : k < a.length
      · have hlt' : (k : Int) < a.length := by omega
        have hlt2 : k < b.length := by have := HL.out; omega
        obtain ⟨b1, o1, rfl, d1⟩ := H1.out k hlt
        obtain ⟨b2, o2, rfl, d2⟩ := H2.out k hlt2
        have c1 : wr.cell? ⟨b1, o1 + k, none⟩ = some (.int .i64 a[k]) := (hB.cell (p := ⟨b1, o1 + k, none⟩) (World.block_lt_of_cell? _ _ d1)).trans d1
        have c2 : wr.cell? ⟨b2, o2 + k, none⟩ = some (.int .i64 b[k]) := (hB.cell (p := ⟨b2, o2 + k, none⟩) (World.block_lt_of_cell? _ _ d2)).trans d2
        clear d1 d2
        by_cases he : a[k] = b[k]
        · have HE := Lib.hid he
          rw [← he] at c2
          clear he
          obtain ⟨x, hx⟩ : ∃ x, a[k] = x := ⟨_, rfl⟩
          rw [hx] at c1 c2
          clear hx
          go_wp2
          go_quiet (fail)
          go_wp2
          go_roundw
          case rel => exact ⟨k + 1, by omega, by go_num, (fun j hj h1 h2 => by
            by_cases e : j = k
            · subst e; exact HE.out
            · exact HO.out j (by omega) h1 h2), ⟨hB.os, hB.tape, hB.output, hB.size, hB.block⟩⟩
          case measure => simp [intOf]; omega
        · have HE := Lib.hid he
          obtain ⟨x, hx⟩ : ∃ x, a[k] = x := ⟨_, rfl⟩
          obtain ⟨y, hy⟩ : ∃ y, b[k] = y := ⟨_, rfl⟩
          rw [hx] at c1
          rw [hy] at c2
          have he1 : (x == y) = false := by rw [← hx, ← hy]; simpa using he
          have he2 : (x != y) = true := by simp only [bne, he1]; rfl
          clear he hx hy
          go_wp2
          go_quiet (fail)
          go_wp2
          go_ret
          exact ⟨ret_bool (sameIB_at hlt hlt2 HE.out).symm, ⟨hB.os, hB.tape, hB.output, hB.size, hB.block⟩⟩
      · obtain rfl : k = a.length := by omega
        go_wp2
        go_ret
        exact ⟨ret_bool (sameIB_all HL.out (fun j h1 h2 => HO.out j h1 h1 h2)).symm, hB⟩
  · have E := Lib.hid (sameIB_len hl)
    have hl1 : ((a.length : Int) != b.length) = true := by simp; omega
    clear hp1 hp2 hl
    go_enter Try.func58, Try.ntmps58
    go_wp2
    go_ret
    exact ⟨ret_bool E.out.symm, Below.refl _ _⟩

set_option maxRecDepth 100000 in
set_option maxHeartbeats 1000000 in
theorem equalN_any (v1 v2 : Value) (l m : List Nod) (w : World) (hv1 : IsN w v1 l) (hv2 : IsN w v2 m) (ha : l.length ≤ 1048576) (hb : m.length ≤ 1048576) :
    Calls Try.prog 57 #[v1, v2] w fun e w' => e = .returned (.bool (decide (l = m))) ∧ Below w.heap.size w w' := by
  obtain ⟨p1, cap1, rfl, hp1⟩ := hv1
  obtain ⟨p2, cap2, rfl, hp2⟩ := hv2
  by_cases hl : l.length = m.length
  · have Hp := Lib.hid hp1
    have Hp2 := Lib.hid hp2
    have HL := Lib.hid hl
    have hx : ((l.length : Int) != m.length) = false := by simp [hl]
    have hle : (l.length : Int) ≤ m.length := by omega
    clear hp1 hp2 hl
    go_enter Try.func57, Try.ntmps57
    go_wp2
    go_loopw [13] (fun i wr => ∃ k : Nat, k ≤ l.length ∧ i = .int .i64 k ∧ (∀ j (hj : j < k) (h1 : j < l.length) (h2 : j < m.length), l[j] = m[j]) ∧ Below w.heap.size w wr) (fun i wr => l.length - (intOf i).toNat)
    case atStart => exact ⟨0, by omega, rfl, fun j hj => by omega, Below.refl _ _⟩
    case round =>
      obtain ⟨k, hk, rfl, hok, hB⟩ := hrel
      have HK := Lib.hid hok
      clear hok
      by_cases hlt : k < l.length
      · have hlt' : (k : Int) < l.length := by omega
        have hlt2 : k < m.length := by have := HL.out; omega
        have hlt2' : (k : Int) < m.length := by omega
        obtain ⟨b, off, rfl, d0, d1, d2⟩ := Hp.out k hlt
        obtain ⟨b2, off2, rfl, f0, f1, f2⟩ := Hp2.out k hlt2
        have c0 := (hB.cell (p := ⟨b, off + k * 3, none⟩) (World.block_lt_of_cell? _ _ d0)).trans d0
        have c1 := (hB.cell (p := ⟨b, off + k * 3 + 1, none⟩) (World.block_lt_of_cell? _ _ d1)).trans d1
        have c2 := (hB.cell (p := ⟨b, off + k * 3 + 2, none⟩) (World.block_lt_of_cell? _ _ d2)).trans d2
        have g0 := (hB.cell (p := ⟨b2, off2 + k * 3, none⟩) (World.block_lt_of_cell? _ _ f0)).trans f0
        have g1 := (hB.cell (p := ⟨b2, off2 + k * 3 + 1, none⟩) (World.block_lt_of_cell? _ _ f1)).trans f1
        have g2 := (hB.cell (p := ⟨b2, off2 + k * 3 + 2, none⟩) (World.block_lt_of_cell? _ _ f2)).trans f2
        clear d0 d1 d2 f0 f1 f2
        obtain ⟨c, hc⟩ : ∃ c, l[k] = c := ⟨_, rfl⟩
        obtain ⟨d, hd⟩ : ∃ d, m[k] = d := ⟨_, rfl⟩
        rw [hc] at c0 c1 c2
        rw [hd] at g0 g1 g2
        have HC := Lib.hid (And.intro hc hd)
        clear hc hd
        obtain ⟨x, y, z⟩ := c
        obtain ⟨x', y', z'⟩ := d
        have hdiff : ((x, y, z) : Nod) ≠ (x', y', z') → decide (l = m) = false := fun h => decide_eq_false (fun e => h (by obtain ⟨a1, a2⟩ := HC.out; subst e; rw [a1] at a2; exact a2))
        have HD := Lib.hid hdiff
        clear hdiff
        by_cases hx1 : x = x'
        · subst hx1
          by_cases hy1 : y = y'
          · subst hy1
            by_cases hz1 : z = z'
            · subst hz1
              go_wp2
              go_quiet (fail)
              go_wp2
              go_roundw
              case rel => exact ⟨k + 1, by omega, by go_num, fun j hj h1 h2 => by
                by_cases e : j = k
                · subst e; rw [HC.out.1, HC.out.2]
                · exact HK.out j (by omega) h1 h2, by (repeat (first | (with_reducible exact Below.refl _ _) | ((with_reducible refine below_alloc ?_ ?_ _); · (first | omega | (simp; done) | (simp; omega))) | ((with_reducible refine below_setCell ?_ ?_ _); · (first | omega | (simp; done) | (simp; omega))) | (with_reducible refine Below.drew ?_) | (with_reducible refine below_drewN ?_ _) | ((with_reducible refine below_call (by assumption) ?_ ?_); · (first | omega | (simp; done) | (simp; omega)))))⟩
              case measure => simp [intOf]; omega
            · have HNE := Lib.hid (HD.out (fun e => hz1 (by cases e; rfl)))
              go_wp2
              go_quiet (fail)
              go_wp2
              go_ret
              exact ⟨ret_bool HNE.out.symm, by (repeat (first | (with_reducible exact Below.refl _ _) | ((with_reducible refine below_alloc ?_ ?_ _); · (first | omega | (simp; done) | (simp; omega))) | ((with_reducible refine below_setCell ?_ ?_ _); · (first | omega | (simp; done) | (simp; omega))) | (with_reducible refine Below.drew ?_) | (with_reducible refine below_drewN ?_ _) | ((with_reducible refine below_call (by assumption) ?_ ?_); · (first | omega | (simp; done) | (simp; omega)))))⟩
          · have HNE := Lib.hid (HD.out (fun e => hy1 (by cases e; rfl)))
            go_wp2
            go_quiet (fail)
            go_wp2
            go_ret
            exact ⟨ret_bool HNE.out.symm, by (repeat (first | (with_reducible exact Below.refl _ _) | ((with_reducible refine below_alloc ?_ ?_ _); · (first | omega | (simp; done) | (simp; omega))) | ((with_reducible refine below_setCell ?_ ?_ _); · (first | omega | (simp; done) | (simp; omega))) | (with_reducible refine Below.drew ?_) | (with_reducible refine below_drewN ?_ _) | ((with_reducible refine below_call (by assumption) ?_ ?_); · (first | omega | (simp; done) | (simp; omega)))))⟩
        · have HNE := Lib.hid (HD.out (fun e => hx1 (by cases e; rfl)))
          go_wp2
          go_quiet (fail)
          go_wp2
          go_ret
          exact ⟨ret_bool HNE.out.symm, by (repeat (first | (with_reducible exact Below.refl _ _) | ((with_reducible refine below_alloc ?_ ?_ _); · (first | omega | (simp; done) | (simp; omega))) | ((with_reducible refine below_setCell ?_ ?_ _); · (first | omega | (simp; done) | (simp; omega))) | (with_reducible refine Below.drew ?_) | (with_reducible refine below_drewN ?_ _) | ((with_reducible refine below_call (by assumption) ?_ ?_); · (first | omega | (simp; done) | (simp; omega)))))⟩
      · obtain rfl : k = l.length := by omega
        have HN : Hid (decide (l = m) = true) := Lib.hid (decide_eq_true (List.ext_getElem HL.out (fun j h1 h2 => HK.out j h1 h1 h2)))
        go_wp2
        go_ret
        exact ⟨ret_bool HN.out.symm, hB⟩
  · have E : Hid (decide (l = m) = false) := Lib.hid (decide_eq_false (fun e => hl (by rw [e])))
    have hl1 : ((l.length : Int) != m.length) = true := by simp; omega
    clear hp1 hp2 hl
    go_enter Try.func57, Try.ntmps57
    go_wp2
    go_ret
    exact ⟨ret_bool E.out.symm, Below.refl _ _⟩

set_option maxRecDepth 100000 in
set_option maxHeartbeats 1000000 in
theorem same4_any (vc vh vt uc uh ut : Value) (a b : LSt) (w : World) (hv : IsLS w vc vh vt a) (hu : IsLS w uc uh ut b) (hl : a.1.length ≤ 1048576) (hf : a.2.1.length ≤ 1048576) (hg : a.2.2.length ≤ 1048576) (hl2 : b.1.length ≤ 1048576) :
    Calls Try.prog 33 #[.agg #[vc, vh, vt], .agg #[uc, uh, ut]] w fun e w' => e = .returned (.bool (sameLB a b)) ∧ Below w.heap.size w w' := by
  have Hv := Lib.hid hv
  have Hu := Lib.hid hu
  have c1 := fun (W : World) (hb : Below w.heap.size w W) => equalN_any _ _ a.1 b.1 W (Hv.out.1.call hb) (Hu.out.1.call hb) hl hl2
  have c2 := fun (W : World) (hb : Below w.heap.size w W) => equalI_any _ _ a.2.1 b.2.1 W (Hv.out.2.1.call hb) (Hu.out.2.1.call hb) hf
  have c3 := fun (W : World) (hb : Below w.heap.size w W) => equalI_any _ _ a.2.2 b.2.2 W (Hv.out.2.2.call hb) (Hu.out.2.2.call hb) hg
  have e1 : sameLB a b = (decide (a.1 = b.1) && (sameIB a.2.1 b.2.1 && sameIB a.2.2 b.2.2)) := rfl
  obtain ⟨l, hd, tl⟩ := a
  obtain ⟨m, he, te⟩ := b
  obtain ⟨⟨pc, cc, rfl, -⟩, ⟨ph, ch, rfl, -⟩, ⟨pt, ct, rfl, -⟩⟩ := hv
  obtain ⟨⟨qc, dc, rfl, -⟩, ⟨qh, dh, rfl, -⟩, ⟨qt, dt, rfl, -⟩⟩ := hu
  replace e1 : sameLB (l, hd, tl) (m, he, te) = (decide (l = m) && (sameIB hd he && sameIB tl te)) := e1
  dsimp only at c1 c2 c3
  cases h1 : decide (l = m)
  · rw [h1] at c1 e1
    have HN : Hid (sameLB (l, hd, tl) (m, he, te) = false) := Lib.hid e1
    clear h1 e1
    go_enter Try.func33, Try.ntmps33
    go_wp2_with fail
    refine (c1 _ (by (repeat (first | (with_reducible exact Below.refl _ _) | ((with_reducible refine below_alloc ?_ ?_ _); · (first | omega | (simp; done) | (simp; omega))) | ((with_reducible refine below_setCell ?_ ?_ _); · (first | omega | (simp; done) | (simp; omega))) | (with_reducible refine Below.drew ?_) | (with_reducible refine below_drewN ?_ _) | ((with_reducible refine below_call (by assumption) ?_ ?_); · (first | omega | (simp; done) | (simp; omega))))))).mono ?_; rintro e w1 ⟨rfl, hb1⟩
    obtain ⟨hk1, hf1, hz1⟩ := bcellN (n := w.heap.size + 2) (by (try simp only [World.size_drew, World.size_alloc, World.size_setCell]); omega) hb1; have hz1_0 : w.heap.size < w1.heap.size := (by omega); have hz1_1 : w.heap.size + 1 < w1.heap.size := (by omega)
    go_wp2_with fail
    go_ret
    exact ⟨ret_bool HN.out.symm, by (repeat (first | (with_reducible exact Below.refl _ _) | ((with_reducible refine below_alloc ?_ ?_ _); · (first | omega | (simp; done) | (simp; omega))) | ((with_reducible refine below_setCell ?_ ?_ _); · (first | omega | (simp; done) | (simp; omega))) | (with_reducible refine Below.drew ?_) | (with_reducible refine below_drewN ?_ _) | ((with_reducible refine below_call (by assumption) ?_ ?_); · (first | omega | (simp; done) | (simp; omega)))))⟩
  · rw [h1] at c1 e1
    cases h2 : sameIB hd he
    · rw [h2] at c2 e1
      have HN : Hid (sameLB (l, hd, tl) (m, he, te) = false) := Lib.hid e1
      clear h1 h2 e1
      go_enter Try.func33, Try.ntmps33
      go_wp2_with fail
      refine (c1 _ (by (repeat (first | (with_reducible exact Below.refl _ _) | ((with_reducible refine below_alloc ?_ ?_ _); · (first | omega | (simp; done) | (simp; omega))) | ((with_reducible refine below_setCell ?_ ?_ _); · (first | omega | (simp; done) | (simp; omega))) | (with_reducible refine Below.drew ?_) | (with_reducible refine below_drewN ?_ _) | ((with_reducible refine below_call (by assumption) ?_ ?_); · (first | omega | (simp; done) | (simp; omega))))))).mono ?_; rintro e w1 ⟨rfl, hb1⟩
      obtain ⟨hk1, hf1, hz1⟩ := bcellN (n := w.heap.size + 2) (by (try simp only [World.size_drew, World.size_alloc, World.size_setCell]); omega) hb1; have hz1_0 : w.heap.size < w1.heap.size := (by omega); have hz1_1 : w.heap.size + 1 < w1.heap.size := (by omega)
      go_wp2_with fail
      refine (c2 _ (by (repeat (first | (with_reducible exact Below.refl _ _) | ((with_reducible refine below_alloc ?_ ?_ _); · (first | omega | (simp; done) | (simp; omega))) | ((with_reducible refine below_setCell ?_ ?_ _); · (first | omega | (simp; done) | (simp; omega))) | (with_reducible refine Below.drew ?_) | (with_reducible refine below_drewN ?_ _) | ((with_reducible refine below_call (by assumption) ?_ ?_); · (first | omega | (simp; done) | (simp; omega))))))).mono ?_; rintro e w2 ⟨rfl, hb2⟩
      obtain ⟨hk2, hf2, hz2⟩ := bcellN (n := w.heap.size + 2) (by (try simp only [World.size_drew, World.size_alloc, World.size_setCell]); omega) hb2; have hz2_0 : w.heap.size < w2.heap.size := (by omega); have hz2_1 : w.heap.size + 1 < w2.heap.size := (by omega)
      go_wp2_with fail
      go_ret
      exact ⟨ret_bool HN.out.symm, by (repeat (first | (with_reducible exact Below.refl _ _) | ((with_reducible refine below_alloc ?_ ?_ _); · (first | omega | (simp; done) | (simp; omega))) | ((with_reducible refine below_setCell ?_ ?_ _); · (first | omega | (simp; done) | (simp; omega))) | (with_reducible refine Below.drew ?_) | (with_reducible refine below_drewN ?_ _) | ((with_reducible refine below_call (by assumption) ?_ ?_); · (first | omega | (simp; done) | (simp; omega)))))⟩
    · rw [h2] at c2 e1
      have HN : Hid (sameLB (l, hd, tl) (m, he, te) = sameIB tl te) := Lib.hid e1
      clear h1 h2 e1
      go_enter Try.func33, Try.ntmps33
      go_wp2_with fail
      refine (c1 _ (by (repeat (first | (with_reducible exact Below.refl _ _) | ((with_reducible refine below_alloc ?_ ?_ _); · (first | omega | (simp; done) | (simp; omega))) | ((with_reducible refine below_setCell ?_ ?_ _); · (first | omega | (simp; done) | (simp; omega))) | (with_reducible refine Below.drew ?_) | (with_reducible refine below_drewN ?_ _) | ((with_reducible refine below_call (by assumption) ?_ ?_); · (first | omega | (simp; done) | (simp; omega))))))).mono ?_; rintro e w1 ⟨rfl, hb1⟩
      obtain ⟨hk1, hf1, hz1⟩ := bcellN (n := w.heap.size + 2) (by (try simp only [World.size_drew, World.size_alloc, World.size_setCell]); omega) hb1; have hz1_0 : w.heap.size < w1.heap.size := (by omega); have hz1_1 : w.heap.size + 1 < w1.heap.size := (by omega)
      go_wp2_with fail
      refine (c2 _ (by (repeat (first | (with_reducible exact Below.refl _ _) | ((with_reducible refine below_alloc ?_ ?_ _); · (first | omega | (simp; done) | (simp; omega))) | ((with_reducible refine below_setCell ?_ ?_ _); · (first | omega | (simp; done) | (simp; omega))) | (with_reducible refine Below.drew ?_) | (with_reducible refine below_drewN ?_ _) | ((with_reducible refine below_call (by assumption) ?_ ?_); · (first | omega | (simp; done) | (simp; omega))))))).mono ?_; rintro e w2 ⟨rfl, hb2⟩
      obtain ⟨hk2, hf2, hz2⟩ := bcellN (n := w.heap.size + 2) (by (try simp only [World.size_drew, World.size_alloc, World.size_setCell]); omega) hb2; have hz2_0 : w.heap.size < w2.heap.size := (by omega); have hz2_1 : w.heap.size + 1 < w2.heap.size := (by omega)
      go_wp2_with fail
      refine (c3 _ (by (repeat (first | (with_reducible exact Below.refl _ _) | ((with_reducible refine below_alloc ?_ ?_ _); · (first | omega | (simp; done) | (simp; omega))) | ((with_reducible refine below_setCell ?_ ?_ _); · (first | omega | (simp; done) | (simp; omega))) | (with_reducible refine Below.drew ?_) | (with_reducible refine below_drewN ?_ _) | ((with_reducible refine below_call (by assumption) ?_ ?_); · (first | omega | (simp; done) | (simp; omega))))))).mono ?_; rintro e w3 ⟨rfl, hb3⟩
      obtain ⟨hk3, hf3, hz3⟩ := bcellN (n := w.heap.size + 2) (by (try simp only [World.size_drew, World.size_alloc, World.size_setCell]); omega) hb3; have hz3_0 : w.heap.size < w3.heap.size := (by omega); have hz3_1 : w.heap.size + 1 < w3.heap.size := (by omega)
      go_wp2_with fail
      go_ret
      exact ⟨ret_bool HN.out.symm, by (repeat (first | (with_reducible exact Below.refl _ _) | ((with_reducible refine below_alloc ?_ ?_ _); · (first | omega | (simp; done) | (simp; omega))) | ((with_reducible refine below_setCell ?_ ?_ _); · (first | omega | (simp; done) | (simp; omega))) | (with_reducible refine Below.drew ?_) | (with_reducible refine below_drewN ?_ _) | ((with_reducible refine below_call (by assumption) ?_ ?_); · (first | omega | (simp; done) | (simp; omega)))))⟩
end Go.Proofs.Ytkcenadenmkgnaa
