/- Layer 10, the program's: Put and Size. -/
import Derived.Test.YtackinamkibmlaaDoorS10Y
import Derived.Maps.AppendAt
import Derived.Test.YtackinamkibmlaaDoorOctAH
import Derived.Deep.LoopGhost
namespace Go.Proofs.YtackinamkibmlaaDoor
open Go.RowKit
open Go.Lib (byteCells)
set_option linter.unusedVariables false
set_option linter.unusedSimpArgs false

theorem OwnF.lt {w : World} {B : Nat} {v : Value} {g : Nat} {l : List Lt} (h : OwnF w B v g l) : ∀ k, v.ownBlock = some k → B ≤ k ∧ k < w.heap.size := World.ownsRow.lt h
theorem OwnF.kept {w w' : World} {B : Nat} {v : Value} {g : Nat} {l : List Lt} {row : Option Nat} (h : OwnF w B v g l) (hg : w.grownBy w' row) (hne : v.ownBlock = none ∨ v.ownBlock ≠ row) : OwnF w' B v g l := World.ownsRow.kept h hg hne
theorem Bx8.below {W w1 : World} {b B : Nat} {x : St} (h : Bx8 W b x) (hb : Below B W w1) (hl : b < B) : Bx8 w1 b x := by
  have k := fun o => hb.cell (p := ⟨b, o, none⟩) hl
  obtain ⟨h0, h1, h2, h3, h4, h5, h6, h7⟩ := h
  exact ⟨(k 0).trans h0, (k 1).trans h1, (k 2).trans h2, (k 3).trans h3, (k 4).trans h4, (k 5).trans h5, (k 6).trans h6, (k 7).trans h7⟩
theorem fld_ptrs (g : Nat) (c : Lt) : ∃ a b : Option Addr, tpV g c = .pointer a ∧ npV g c = .pointer b := by
  cases c <;> exact ⟨_, _, rfl, rfl⟩
theorem take_flat {f : Lt → List UInt8} (l : List Lt) (i : Nat) (h : i < l.length) : (l.take (i + 1)).flatMap f = (l.take i).flatMap f ++ f l[i] := by
  rw [List.take_succ_eq_append_getElem h, List.flatMap_append, List.flatMap_singleton]
theorem putF_ne {x : St} {c : Lt} : putF x c ≠ [] := by
  intro h
  have h0 := congrArg List.length h
  cases c
  · have : (sayB x.u).length = 0 := h0
    rw [sayB_len] at this; omega
  · have : (sayB x.r).length = 0 := h0
    rw [sayB_len] at this; omega
  · have : (sayB x.m).length = 0 := h0
    rw [sayB_len] at this; omega
  · have : (lay x.s 1).length = 0 := h0
    rw [lay_len] at this; omega
  · have : (lay (x.p + 128) 1).length = 0 := h0
    rw [lay_len] at this; omega
  · have : (lay x.c 1).length = 0 := h0
    rw [lay_len] at this; omega
  · have : (lay x.n 6).length = 0 := h0
    rw [lay_len] at this; omega
theorem app_b {w : World} {ops : Array Oper} {rest : List Oper} {o : Oper} {a : Act} {Q : Exit → Act → World → Prop} (hgd : o.guard = none) (s y : Operand)
    (ho : o.op = .call { callee := .builtin .append, args := #[s, y], argTypes := #[61, 61] }) (B C : Nat) (l m : List UInt8) (v u : Value)
    (hs : a.eval s = v) (hown : IsB w B v l) (hy : a.eval y = u) (hu : IsB w C u m) (hm : m ≠ []) (hl : l.length + m.length ≤ 1000000000) (hB : B ≤ w.heap.size)
    (h : ∀ v' w', IsB w' B v' (l ++ m) → Below B w w' → w.grownBy w' v.ownBlock → (v'.ownBlock = v.ownBlock ∨ v'.ownBlock = some w.heap.size) → wpList Tryd.prog ops Q rest (a.put o.dst v') w') : wpList Tryd.prog ops Q (o :: rest) a w := by
  obtain ⟨i0, hi, hz0, hz1, hz2⟩ := info_parts info_u8
  rcases hu.shape with ⟨_, h0⟩ | ⟨b, cap, rfl, hb, hlt⟩
  · exact absurd h0 hm
  refine wpList_append_own_at w hgd s y 61 ho B 5 i0 (.int .u8 0) 1 1 Tryd.underlying61 hi hz0 hz1 hz2 rfl (by decide) v l.length (byteCells l) hs hown ⟨b, 0, none⟩ m.length cap (byteCells m) hy (by simp [Lib.byteCells]) (fun j x hj => World.ownsRow.cells hu (g := b) rfl j x hj) (by simp [Lib.byteCells, Value.oneCell']) (by unfold maxLen; omega) (by omega) hB ?_
  intro v' w' h2 h3 _ h5
  refine h v' w' ?_ ((Below.refl B w).grown h3 hB (fun j hj => (World.ownsRow.lt hown j hj).1)) h3 h5
  show w'.ownsRow _ _ _ _ (l ++ m).length (byteCells (l ++ m))
  rw [List.length_append, show byteCells (l ++ m) = byteCells l ++ byteCells m by simp [Lib.byteCells]]
  exact h2
set_option maxHeartbeats 4000000 in
set_option maxRecDepth 1000000 in
theorem sput_any (x : St) (w : World) (hT : Tabs9 w) (hz : Sml x) : Calls Tryd.prog 44 #[stzV x] w fun e w' => e = .returned (.tuple #[.string (putT x), .int .i64 (chkS x)]) ∧ Below w.heap.size w w' := by
  have hx8 := Bx8.new w x
  have hb0 : Below w.heap.size w (w.alloc (.cells #[.int .u8 (x.k.toNat : Int), .string x.u, .string x.r, .string x.m, .int .i64 x.s, .int .i64 x.p, .int .i64 x.c, .int .i64 x.n] 40)) := (Below.refl _ w).alloc (Nat.le_refl _) _
  have cC := fun W hTW => scheck_any x W hTW hz
  have cF := fun W h => flds_any w.heap.size x.k W h
  have hlen : (hasL x.k.toNat).length ≤ 7 := has_all (fun l => l.length ≤ 7) (by decide) x.k.toNat
  by_cases hE : chkS x = 0
  · have hft := fits hE
    have HP : Hid (putT x = ⟨(x.k :: (hasL x.k.toNat).flatMap (putF x)).toArray⟩) := Lib.hid (if_pos hE)
    have hsz := (put_size hE).2
    have htop : (x.k :: (hasL x.k.toNat).flatMap (putF x)).length ≤ 128 := by rw [sz_list, put_data hE] at hsz; exact hsz
    rw [hE] at cC ⊢
    obtain ⟨L, hL⟩ : ∃ L, hasL x.k.toNat = L := ⟨_, rfl⟩
    rw [hL] at cF hlen hft HP htop
    have cl := Lib.hid (fun c g W h hf => slay_any c g x W h hf)
    have HF := Lib.hid hft
    clear hL hsz hE hft
    go_enter Tryd.func44, Tryd.ntmps44
    go_wp2_with fail
    generalize hW0 : w.alloc _ = W0 at hx8 hb0 ⊢
    have hs0 : W0.heap.size = w.heap.size + 1 := by rw [← hW0]; simp
    clear hW0
    refine (cC _ (hT.call hb0)).mono ?_; rintro e w1 ⟨rfl, hb1⟩
    have hx1 := hx8.call hb1
    have hB1 := Lib.hid (hb0.trans (hb1.mono hb0.size))
    have hs1 : w.heap.size + 1 ≤ w1.heap.size := by have := hb1.size; omega
    clear hb0 hb1 hx8 hs0 cC
    obtain ⟨p0, -, -, -, -, -, -, -⟩ := id hx1
    go_wp2_with fail
    have hl1 : IsB (w1.alloc (.cells #[.int .u8 (x.k.toNat : Int)] 5)) (w.heap.size + 1) (.slice (some ⟨w1.heap.size, 0, none⟩) 1 1) (x.k :: ([] : List Lt).flatMap (putF x)) := World.ownsRow_lit w1 #[.int .u8 (x.k.toNat : Int)] 1 hs1 (by unfold maxLen; decide) rfl
    have hx2 := hx1.call ((Below.refl _ w1).alloc (Nat.le_refl _) (.cells #[.int .u8 (x.k.toNat : Int)] 5))
    have hB2 := Lib.hid (hB1.out.alloc hB1.out.size (.cells #[.int .u8 (x.k.toNat : Int)] 5))
    have hs2 : (w1.alloc (.cells #[.int .u8 (x.k.toNat : Int)] 5)).heap.size = w1.heap.size + 1 := by simp
    generalize w1.alloc _ = w2 at hl1 hx2 hB2 hs2 ⊢
    clear hx1 hB1 p0
    refine (cF _ hx2.1).mono ?_; rintro e w3 ⟨v, rfl, hv, hb3⟩
    have HB3 := Lib.hid (hB2.out.trans (hb3.mono hB2.out.size))
    have HX3 := Lib.hid (hx2.call hb3)
    have HO3 := Lib.hid (hl1.call hb3)
    have HV3 := Lib.hid hv
    have Hne : Hid (∀ k, v.ownBlock = some k → (Value.slice (some ⟨w1.heap.size, 0, none⟩) 1 1).ownBlock ≠ some k) := Lib.hid (by
      intro k hk e
      have := (hv.lt k hk).1
      have e' : w1.heap.size = k := by simpa [Value.ownBlock] using e
      omega)
    have Hs3 : Hid (w.heap.size + 1 ≤ w3.heap.size) := Lib.hid (by have := hb3.size; omega)
    have HVL : Hid (∀ k, v.ownBlock = some k → k < w3.heap.size) := Lib.hid (fun k hk => (hv.lt k hk).2)
    obtain ⟨p, cap, rfl⟩ := hv.slice
    generalize w2.heap.size = B2 at HV3
    clear hx2 hl1 hv hb3 hB2 cF
    go_wp2_with fail
    go_loopg [5, 20] 8 (fun gf s5 s20 wx => ∃ i : Nat, s20 = .int .i64 i ∧ i + gf = 8 ∧ i ≤ L.length ∧ IsB wx (w.heap.size + 1) s5 (x.k :: (L.take i).flatMap (putF x)) ∧ OwnF wx B2 (.slice p L.length cap) w.heap.size L ∧ Bx8 wx w.heap.size x ∧
      (∀ k, (Value.slice p L.length cap).ownBlock = some k → s5.ownBlock ≠ some k ∧ k < wx.heap.size) ∧ Below w.heap.size w wx ∧ w.heap.size + 1 ≤ wx.heap.size)
    case atStart => exact ⟨0, rfl, rfl, Nat.zero_le _, HO3.out, HV3.out, HX3.out, fun k hk => ⟨Hne.out k hk, HVL.out k hk⟩, HB3.out, Hs3.out⟩
    case round =>
      obtain ⟨i, rfl, hig, hil, hbs, hfs, hbx, hdn, hbw, hsw⟩ := hrel
      by_cases hlt : i < L.length
      · obtain ⟨g', rfl⟩ : ∃ g', gk = g' + 1 := ⟨gk - 1, by omega⟩
        obtain ⟨b, cap', hsl, hBb, hbl, k0, k1, k2, k3, k4⟩ := hfs.at hlt
        injection hsl with h1 h2 h3
        subst h1
        subst h3
        have htf : Hid ((L.take (i + 1)).flatMap (putF x) = (L.take i).flatMap (putF x) ++ putF x L[i]) := Lib.hid (take_flat L i hlt)
        have hfit : Hid (fitF x L[i]) := Lib.hid (HF.out _ (List.getElem_mem hlt))
        have hlb : Hid ((x.k :: (L.take i).flatMap (putF x)).length + (putF x L[i]).length ≤ 128) := Lib.hid (by
          have e : L.flatMap (putF x) = (L.take (i + 1)).flatMap (putF x) ++ (L.drop (i + 1)).flatMap (putF x) := by rw [← List.flatMap_append, List.take_append_drop]
          have := htop
          rw [List.length_cons, e, htf.out, List.length_append, List.length_append] at this
          rw [List.length_cons]
          omega)
        obtain ⟨c, hcc⟩ : ∃ c, L[i] = c := ⟨_, rfl⟩
        rw [hcc] at k0 k1 k2 k3 k4 htf hfit hlb
        have A1 := Lib.hid hbs
        have A2 := Lib.hid hfs
        have A3 := Lib.hid hbx
        have A4 := Lib.hid hdn
        have A5 := Lib.hid hbw
        clear hcc hbs hfs hbx hdn hbw
        obtain ⟨pa, pb, e1, e2⟩ := fld_ptrs w.heap.size c
        have cl' := Lib.hid (cl.out c w.heap.size)
        dsimp only [fldV] at cl'
        rw [e1, e2] at cl'
        rw [e1] at k0
        rw [e2] at k1
        generalize hlo : c.least = lo at k2 cl'
        generalize hhi : c.most = hi at k3 cl'
        generalize hwd : c.wid = wd at k4 cl'
        clear e1 e2 hlo hhi hwd
        go_wp2_with fail
        refine (cl'.out _ (A3.out.call ((Below.refl _ wr).alloc (Nat.le_refl _) _)) hfit.out).mono ?_; rintro e w4 ⟨v4, rfl, hv4, hb4⟩
        have hb4' : Below wr.heap.size wr w4 := ((Below.refl _ wr).alloc (Nat.le_refl _) _).trans (hb4.mono (by simp))
        have A6 := Lib.hid (A1.out.call hb4')
        have A7 := Lib.hid (A2.out.call hb4')
        have A8 := Lib.hid (A3.out.call hb4')
        have A9 := Lib.hid hv4
        have A10 := Lib.hid (A5.out.trans (hb4'.mono A5.out.size))
        have hz4 : wr.heap.size ≤ w4.heap.size := hb4'.size
        have hzB : w.heap.size + 1 ≤ w4.heap.size := by omega
        have A11 := Lib.hid hz4
        clear hb4 hb4' hv4 A1 A2 A3 A5
        go_wp2_with (at_builtin; refine app_b rfl _ _ rfl (w.heap.size + 1) _ _ _ _ _ rfl A6.out rfl A9.out putF_ne (by have := hlb.out; omega) hzB ?_; intro v5 w5 hv5 hb5 hg5 hn5)
        have A12 := Lib.hid hv5
        have A13 := Lib.hid hg5
        have A14 := Lib.hid hn5
        have A15 := Lib.hid hb5
        clear hv5 hg5 hn5 hb5
        go_roundg g'
        case measure => omega
        case rel =>
          refine ⟨i + 1, by simp, by omega, by omega, ?_, A7.out.kept A13.out (.inr (fun e => (A4.out _ rfl).1 e.symm)), A8.out.below A15.out (Nat.lt_succ_self _), ?_, A10.out.trans (A15.out.mono (Nat.le_succ _)), Nat.le_trans hzB A15.out.size⟩
          · rw [htf.out]
            exact A12.out
          · intro k hk
            obtain ⟨q1, q2⟩ := A4.out k hk
            refine ⟨?_, by have := A11.out; have := A15.out.size; omega⟩
            rcases A14.out with e | e
            · rw [e]; exact q1
            · rw [e]
              intro e'
              have : w4.heap.size = k := by simpa using e'
              have := A11.out
              omega
      · have hi : i = L.length := by omega
        subst hi
        rw [List.take_length] at hbs
        have hconv := hbs.str
        have A5 := Lib.hid hbw
        clear hbs hfs hbx hdn hbw
        go_wp2_with fail
        go_ret2
        refine ⟨?_, by first | exact A5.out | exact below_drewN A5.out _⟩
        show Ending.returned (.tuple #[.string ⟨(x.k :: L.flatMap (putF x)).toArray⟩, .int .i64 0]) = _
        rw [HP.out]
  · have e0 : (chkS x != 0) = true := by simpa using hE
    have HP : Hid (putT x = ⟨#[]⟩) := Lib.hid (if_neg hE)
    go_enter Tryd.func44, Tryd.ntmps44
    go_wp2_with fail
    refine (cC _ (hT.call (by (repeat (first | (with_reducible exact Below.refl _ _) | ((with_reducible refine below_alloc ?_ ?_ _); · (first | omega | (simp; done) | (simp; omega))) | ((with_reducible refine below_setCell ?_ ?_ _); · (first | omega | (simp; done) | (simp; omega))) | (with_reducible refine Below.drew ?_) | (with_reducible refine below_drewN ?_ _) | ((with_reducible refine below_call (by assumption) ?_ ?_); · (first | omega | (simp; done) | (simp; omega)))))))).mono ?_; rintro e w1 ⟨rfl, hb1⟩
    go_wp2_with fail
    go_ret2
    refine ⟨?_, by (repeat (first | (with_reducible exact Below.refl _ _) | ((with_reducible refine below_alloc ?_ ?_ _); · (first | omega | (simp; done) | (simp; omega))) | ((with_reducible refine below_setCell ?_ ?_ _); · (first | omega | (simp; done) | (simp; omega))) | (with_reducible refine Below.drew ?_) | (with_reducible refine below_drewN ?_ _) | ((with_reducible refine below_call (by assumption) ?_ ?_); · (first | omega | (simp; done) | (simp; omega)))))⟩
    show Ending.returned (.tuple #[.string ⟨#[]⟩, .int .i64 (chkS x)]) = _
    rw [HP.out]
end Go.Proofs.YtackinamkibmlaaDoor
namespace Go.Proofs.YtackinamkibmlaaDoor
open Go.RowKit
set_option linter.unusedVariables false
set_option linter.unusedSimpArgs false

theorem below_set {B : Nat} {a w : World} {p : Addr} (h : Below B a w) (u : Value) : Below B (a.setCell p u) (w.setCell p u) := by
  refine ⟨h.os, h.tape, h.output, by simpa [World.size_setCell] using h.size, fun k hk => ?_⟩
  simp only [World.setCell, Array.getElem?_modify]
  rw [h.block k hk]
theorem below_three {B b : Nat} {a w : World} {x y z : Value} (hb : B ≤ b) (h : Below B a w) : Below B a (((w.setCell ⟨b, 0, none⟩ x).setCell ⟨b, 1, none⟩ y).setCell ⟨b, 2, none⟩ z) :=
  below_setCell hb (below_setCell hb (below_setCell hb h _) _) _
abbrev rdV (b : ByteArray) (a e : Int) : Value := .agg #[.string b, .int .i64 a, .int .i64 e]
set_option maxHeartbeats 8000000 in
set_option maxRecDepth 1000000 in
theorem sread_t (g i : Nat) (lo hi wd : Int) (b : ByteArray) (a e : Int) (s0 : ByteArray) (w : World) (h : w.cell? ⟨g, i, none⟩ = some (.string s0)) (hf : w.frozen? ⟨g, i, none⟩ = false) (hb : b.size ≤ 1000000) :
    Calls Tryd.prog 47 #[rdV b a e, .agg #[.pointer (some ⟨g, i, none⟩), .pointer none, .int .i64 lo, .int .i64 hi, .int .i64 wd]] w
      fun E w' => E = .returned (rdV b (textA b a e hi) (textB b a e hi)) ∧ Below w.heap.size (w.setCell ⟨g, i, none⟩ (.string (textS b a e hi))) w' := by
  have hlt := World.block_lt_of_cell? _ _ h
  replace hlt : g < w.heap.size := hlt
  have c := Lib.hid (fun W => text_any b a e hi W (by omega))
  simp only [textV] at c
  generalize textA b a e hi = A' at c ⊢
  generalize textB b a e hi = B' at c ⊢
  generalize textS b a e hi = S' at c ⊢
  have n0 : g ≠ w.heap.size := by omega
  have n1 : g ≠ w.heap.size + 1 := by omega
  have n2 : g ≠ w.heap.size + 2 := by omega
  have m0 : w.heap.size ≠ g := by omega
  have m1 : w.heap.size + 1 ≠ g := by omega
  have m2 : w.heap.size + 2 ≠ g := by omega
  have hl3 : g < w.heap.size + 3 := by omega
  go_enter Tryd.func47, Tryd.ntmps47
  go_wp2_with fail
  go_region_with ((go_at_call 68; refine (c.out _).mono ?_; rintro E w1 ⟨rfl, hb1⟩; obtain ⟨hk1, hf1, hz1⟩ := bcellN (n := w.heap.size + 3) (by (try simp only [World.size_drew, World.size_alloc, World.size_setCell]); omega) hb1; have hz1_0 : w.heap.size < w1.heap.size := (by omega); have hz1_1 : w.heap.size + 1 < w1.heap.size := (by omega); have hz1_2 : w.heap.size + 2 < w1.heap.size := (by omega); have hBw : Below w.heap.size w w1 := (by (repeat (first | (with_reducible exact Below.refl _ _) | ((with_reducible refine below_alloc ?_ ?_ _); · (first | omega | (simp; done) | (simp; omega))) | ((with_reducible refine below_setCell ?_ ?_ _); · (first | omega | (simp; done) | (simp; omega))) | (with_reducible refine Below.drew ?_) | (with_reducible refine below_drewN ?_ _) | ((with_reducible refine below_call (by assumption) ?_ ?_); · (first | omega | (simp; done) | (simp; omega)))))); have hcg := (hBw.cell (p := ⟨g, i, none⟩) hlt).trans h; have hfg := (hBw.frozen (p := ⟨g, i, none⟩) hlt).trans hf; have HBw := Lib.hid hBw; have r3 : Row3 w1 w.heap.size (.string b) (.int .i64 a) (.int .i64 e) := (by simp [Row3, hk1, hf1, go_sem]); have q3 : Row3 w1 (w.heap.size + 1 + 1) (.string ⟨#[]⟩) (.int .i64 0) (.int .i64 0) := (by simp [Row3, hk1, hf1, go_sem]); have fc0 : w1.cell? ⟨w.heap.size + 1, 0, none⟩ = some (.pointer (some ⟨g, i, none⟩)) := (by simp [hk1, go_sem]); obtain ⟨⟨c0, c1, c2⟩, f0, f1, f2⟩ := r3; obtain ⟨⟨d0, d1, d2⟩, g0, g1, g2⟩ := q3; clear hBw hk1 hf1))
  all_goals go_wp2_with fail
  all_goals refine bodyPost_ret (v := .agg #[.string b, .int .i64 A', .int .i64 B']) (by simp [results, Tryd.results47, go_sem, d0, d1, d2]) rfl ⟨rfl, ?_⟩
  all_goals exact below_three (by omega) (below_set (below_three (Nat.le_refl _) HBw.out) _)
end Go.Proofs.YtackinamkibmlaaDoor
namespace Go.Proofs.YtackinamkibmlaaDoor
open Go.RowKit
set_option linter.unusedVariables false
set_option linter.unusedSimpArgs false

set_option maxHeartbeats 8000000 in
set_option maxRecDepth 1000000 in
theorem sread_n (g i : Nat) (lo hi wd : Int) (b : ByteArray) (a e z : Int) (w : World) (h : w.cell? ⟨g, i, none⟩ = some (.int .i64 z)) (hf : w.frozen? ⟨g, i, none⟩ = false) (hb : b.size ≤ 1000000)
    (hw : IntKind.i64.wrap (numN b a e wd + lo) = numN b a e wd + lo) :
    Calls Tryd.prog 47 #[rdV b a e, .agg #[.pointer none, .pointer (some ⟨g, i, none⟩), .int .i64 lo, .int .i64 hi, .int .i64 wd]] w
      fun E w' => E = .returned (rdV b (numA b a e wd) (numB b a e wd)) ∧ Below w.heap.size (w.setCell ⟨g, i, none⟩ (.int .i64 (numN b a e wd + lo))) w' := by
  have hlt := World.block_lt_of_cell? _ _ h
  replace hlt : g < w.heap.size := hlt
  have c := Lib.hid (fun W => num_any b a e wd W (by unfold maxLen; omega))
  simp only [numV] at c
  generalize numA b a e wd = A' at c ⊢
  generalize numB b a e wd = B' at c ⊢
  generalize numN b a e wd = N' at c hw ⊢
  have n0 : g ≠ w.heap.size := by omega
  have n1 : g ≠ w.heap.size + 1 := by omega
  have n2 : g ≠ w.heap.size + 2 := by omega
  have m0 : w.heap.size ≠ g := by omega
  have m1 : w.heap.size + 1 ≠ g := by omega
  have m2 : w.heap.size + 2 ≠ g := by omega
  have hl3 : g < w.heap.size + 3 := by omega
  go_enter Tryd.func47, Tryd.ntmps47
  go_wp2_with fail
  refine (c.out _).mono ?_; rintro E w1 ⟨rfl, hb1⟩
  obtain ⟨hk1, hf1, hz1⟩ := bcellN (n := w.heap.size + 3) (by (try simp only [World.size_drew, World.size_alloc, World.size_setCell]); omega) hb1; have hz1_0 : w.heap.size < w1.heap.size := (by omega); have hz1_1 : w.heap.size + 1 < w1.heap.size := (by omega); have hz1_2 : w.heap.size + 2 < w1.heap.size := (by omega)
  have hBw : Below w.heap.size w w1 := (by (repeat (first | (with_reducible exact Below.refl _ _) | ((with_reducible refine below_alloc ?_ ?_ _); · (first | omega | (simp; done) | (simp; omega))) | ((with_reducible refine below_setCell ?_ ?_ _); · (first | omega | (simp; done) | (simp; omega))) | (with_reducible refine Below.drew ?_) | (with_reducible refine below_drewN ?_ _) | ((with_reducible refine below_call (by assumption) ?_ ?_); · (first | omega | (simp; done) | (simp; omega))))))
  have hcg := (hBw.cell (p := ⟨g, i, none⟩) hlt).trans h
  have hfg := (hBw.frozen (p := ⟨g, i, none⟩) hlt).trans hf
  have HBw := Lib.hid hBw
  have r3 : Row3 w1 w.heap.size (.string b) (.int .i64 a) (.int .i64 e) := (by simp [Row3, hk1, hf1, go_sem])
  have q3 : Row3 w1 (w.heap.size + 1 + 1) (.string ⟨#[]⟩) (.int .i64 0) (.int .i64 0) := (by simp [Row3, hk1, hf1, go_sem])
  have fc1 : w1.cell? ⟨w.heap.size + 1, 1, none⟩ = some (.pointer (some ⟨g, i, none⟩)) := (by simp [hk1, go_sem])
  have fc2 : w1.cell? ⟨w.heap.size + 1, 2, none⟩ = some (.int .i64 lo) := (by simp [hk1, go_sem])
  obtain ⟨⟨c0, c1, c2⟩, f0, f1, f2⟩ := r3
  obtain ⟨⟨d0, d1, d2⟩, g0, g1, g2⟩ := q3
  clear hBw hk1 hf1
  go_wp2_with fail
  refine bodyPost_ret (v := .agg #[.string b, .int .i64 A', .int .i64 B']) (by simp [results, Tryd.results47, go_sem, d0, d1, d2]) rfl ⟨rfl, ?_⟩
  exact below_three (by omega) (below_set (below_three (Nat.le_refl _) HBw.out) _)
end Go.Proofs.YtackinamkibmlaaDoor
namespace Go.Proofs.YtackinamkibmlaaDoor
open Go.RowKit
set_option linter.unusedVariables false
set_option linter.unusedSimpArgs false

/-! ### behind the first byte -/
theorem tail_size {b : ByteArray} (h : 0 < b.size) : (tailB b).size + 1 = b.size := by
  unfold tailB
  rw [sz_list, ex_list2, sz_list, List.take_length, List.length_drop]
  rw [sz_list] at h
  omega
theorem tail_list (b : ByteArray) : (tailB b).data.toList = b.data.toList.drop 1 := by
  unfold tailB
  rw [ex_list2, sz_list, List.take_length]
theorem tail_chk {b : ByteArray} (h : 0 < b.size) {a : Int} (h0 : 0 ≤ a) (e : Int) : chk b (a + 1) e = chk (tailB b) a e := by
  have := tail_size h
  unfold chk
  by_cases he : e = 0
  · subst he
    by_cases hl : (b.size : Int) < a + 1
    · rw [if_pos ⟨rfl, .inr hl⟩, if_pos ⟨rfl, .inr (by omega)⟩]
    · rw [if_neg (by rintro ⟨_, q | q⟩ <;> omega), if_neg (by rintro ⟨_, q | q⟩ <;> omega)]
  · rw [if_neg (fun q => he q.1), if_neg (fun q => he q.1)]
theorem tail_cut (b : ByteArray) {a : Int} (h0 : 0 ≤ a) (n : Nat) : cut b (a + 1).toNat n = cut (tailB b) a.toNat n := by
  unfold cut
  rw [tail_list, List.drop_drop, show (a + 1).toNat = 1 + a.toNat by omega]
theorem tail_tlen (b : ByteArray) {a : Int} (h0 : 0 ≤ a) : tlen b (a + 1).toNat = tlen (tailB b) a.toNat := by
  unfold tlen
  rw [tail_cut b h0]
theorem tail_done {b : ByteArray} (h : 0 < b.size) {a : Int} (h0 : 0 ≤ a) (e : Int) : doneN b (a + 1) e = doneN (tailB b) a e := by
  have := tail_size h
  unfold doneN
  rw [tail_chk h h0]
  by_cases hl : a + 1 < (b.size : Int)
  · rw [if_pos hl, if_pos (show a < ((tailB b).size : Int) by omega)]
  · rw [if_neg hl, if_neg (show ¬ a < ((tailB b).size : Int) by omega)]
theorem tail_num {b : ByteArray} (h : 0 < b.size) {a : Int} (h0 : 0 ≤ a) (e n : Int) : numA b (a + 1) e n = numA (tailB b) a e n + 1 ∧ numB b (a + 1) e n = numB (tailB b) a e n ∧ numN b (a + 1) e n = numN (tailB b) a e n := by
  have hs := tail_size h
  have hc : (b.size : Int) - (a + 1) = (tailB b).size - a := by omega
  unfold numA numB numN
  rw [tail_chk h h0, tail_cut b h0, hc]
  refine ⟨?_, rfl, rfl⟩
  split <;> omega
theorem tail_text {b : ByteArray} (h : 0 < b.size) {a : Int} (h0 : 0 ≤ a) (e m : Int) : textA b (a + 1) e m = textA (tailB b) a e m + 1 ∧ textB b (a + 1) e m = textB (tailB b) a e m ∧ textS b (a + 1) e m = textS (tailB b) a e m := by
  have hs := tail_size h
  have hc : (b.size : Int) - (a + 1) = (tailB b).size - a := by omega
  have hc2 : (b.size : Int) - (a + 1 + 1) = (tailB b).size - (a + 1) := by omega
  have hok : textOk b (a + 1) e m = textOk (tailB b) a e m := by
    unfold textOk
    rw [tail_chk h h0, tail_tlen b h0, hc, hc2]
  unfold textA textB textS
  rw [hok, tail_chk h h0, tail_tlen b h0, hc, hc2]
  refine ⟨?_, rfl, ?_⟩
  · split <;> omega
  · by_cases ho : textOk (tailB b) a e m = true
    · rw [if_pos ho, if_pos ho]
      apply ByteArray.ext
      apply Array.toList_inj.1
      rw [ex_list2, ex_list2, tail_list, show (a + 1).toNat = a.toNat + 1 by omega, List.drop_take, List.drop_take, List.drop_drop, show a.toNat + 1 + 1 + tlen (tailB b) a.toNat - (a.toNat + 1 + 1) = tlen (tailB b) a.toNat by omega, show a.toNat + 1 + tlen (tailB b) a.toNat - (a.toNat + 1) = tlen (tailB b) a.toNat by omega, show 1 + (a.toNat + 1) = a.toNat + 1 + 1 by omega]
    · rw [if_neg ho, if_neg ho]
theorem num_pos {s : ByteArray} {a e n : Int} (h0 : 0 ≤ a) : 0 ≤ numA s a e n := by
  unfold numA
  split
  · rename_i h
    have := (wide_bd h.2.1).1
    omega
  · exact h0
theorem text_pos {s : ByteArray} {a e m : Int} (h0 : 0 ≤ a) : 0 ≤ textA s a e m := by
  unfold textA
  split <;> omega
theorem numN_bd (s : ByteArray) (a e : Int) (n : Nat) (hn : n ≤ 6) : 0 ≤ numN s a e n ∧ numN s a e n ≤ 281474976710655 := by
  unfold numN
  split
  · rename_i h
    obtain ⟨h1, h2, h3⟩ := h
    obtain ⟨-, ha, -⟩ := chk_zero h1
    have := be_nonneg (cut s a.toNat (n : Int).toNat)
    have := be_cut_lt (s := s) (a := a.toNat) (k := (n : Int).toNat) (by omega) (by omega)
    omega
  · omega
theorem tail_get {b : ByteArray} (h : 0 < b.size) {a : Int} (h0 : 0 ≤ a) (e : Int) (x : St) (c : Lt) :
    getF b (a + 1, e, x) c = ((getF (tailB b) (a, e, x) c).1 + 1, (getF (tailB b) (a, e, x) c).2) ∧ 0 ≤ (getF (tailB b) (a, e, x) c).1 := by
  cases c <;> simp only [getF] <;> first
    | (obtain ⟨q1, q2, q3⟩ := tail_text h h0 e 33; rw [q1, q2, q3]; exact ⟨rfl, text_pos h0⟩)
    | (obtain ⟨q1, q2, q3⟩ := tail_text h h0 e 12; rw [q1, q2, q3]; exact ⟨rfl, text_pos h0⟩)
    | (obtain ⟨q1, q2, q3⟩ := tail_text h h0 e 24; rw [q1, q2, q3]; exact ⟨rfl, text_pos h0⟩)
    | (obtain ⟨q1, q2, q3⟩ := tail_num h h0 e 1; rw [q1, q2, q3]; exact ⟨rfl, num_pos h0⟩)
    | (obtain ⟨q1, q2, q3⟩ := tail_num h h0 e 6; rw [q1, q2, q3]; exact ⟨rfl, num_pos h0⟩)
theorem tail_getL {b : ByteArray} (h : 0 < b.size) (l : List Lt) : ∀ {a : Int} (h0 : 0 ≤ a) (e : Int) (x : St),
    getL b l (a + 1, e, x) = ((getL (tailB b) l (a, e, x)).1 + 1, (getL (tailB b) l (a, e, x)).2) ∧ 0 ≤ (getL (tailB b) l (a, e, x)).1 := by
  induction l with
  | nil => intro a h0 e x; exact ⟨rfl, h0⟩
  | cons c l ih =>
    intro a h0 e x
    obtain ⟨q1, q2⟩ := tail_get h h0 e x c
    obtain ⟨r1, r2⟩ := ih (a := (getF (tailB b) (a, e, x) c).1) q2 (getF (tailB b) (a, e, x) c).2.1 (getF (tailB b) (a, e, x) c).2.2
    unfold getL at r1 r2 ⊢
    rw [List.foldl_cons, List.foldl_cons, q1]
    exact ⟨r1, r2⟩
theorem getL_take (b : ByteArray) (l : List Lt) (q : Rd) (i : Nat) (h : i < l.length) : getL b (l.take (i + 1)) q = getF b (getL b (l.take i) q) l[i] := by
  unfold getL
  rw [List.take_succ_eq_append_getElem h, List.foldl_append]
  rfl
/-- what Read's own reader tells in the end -/
def readW (b : ByteArray) : Rd := getL b (hasL (headB b).toNat) (1, 0, St.nil (headB b))
theorem readW_eq {b : ByteArray} (h : 0 < b.size) : (readW b).2 = (readQ b).2 ∧ doneN b (readW b).1 (readW b).2.1 = doneN (tailB b) (readQ b).1 (readQ b).2.1 := by
  obtain ⟨q1, q2⟩ := tail_getL h (hasL (headB b).toNat) (a := 0) (Int.le_refl 0) 0 (St.nil (headB b))
  unfold readW readQ
  rw [show (1 : Int) = 0 + 1 from rfl, q1]
  exact ⟨rfl, tail_done h q2 _⟩
/-! ### a field -/
/-- a letter's part of a stanza, as it lies -/
def valF (x : St) (c : Lt) : Value := if c.isT then .string (txtF x c) else .int .i64 (numF x c)
def Fz (w : World) (g : Nat) : Prop := ∀ o, w.frozen? ⟨g, o, none⟩ = false
theorem sread_f (c : Lt) (g : Nat) (x : St) (b : ByteArray) (a e : Int) (w : World) (h : Bx8 w g x) (hf : Fz w g) (hb : b.size ≤ 1000000) :
    Calls Tryd.prog 47 #[rdV b a e, fldV g c] w fun E w' => E = .returned (rdV b (getF b (a, e, x) c).1 (getF b (a, e, x) c).2.1) ∧ Below w.heap.size (w.setCell ⟨g, c.ix, none⟩ (valF (getF b (a, e, x) c).2.2 c)) w' := by
  have w1 : 0 ≤ numN b a e 1 ∧ numN b a e 1 ≤ 281474976710655 := numN_bd b a e 1 (by decide)
  have w6 : 0 ≤ numN b a e 6 ∧ numN b a e 6 ≤ 281474976710655 := numN_bd b a e 6 (by decide)
  cases c with
  | lu => exact sread_t g 1 0 33 0 b a e x.u w (h.txt (c := .lu) rfl) (hf 1) hb
  | lr => exact sread_t g 2 0 12 0 b a e x.r w (h.txt (c := .lr) rfl) (hf 2) hb
  | lm => exact sread_t g 3 0 24 0 b a e x.m w (h.txt (c := .lm) rfl) (hf 3) hb
  | ls =>
    have q := sread_n g 4 0 63 1 b a e x.s w (h.num (c := .ls) rfl) (hf 4) hb (IntWalk.i64_in _ (by omega))
    rw [Int.add_zero] at q
    exact q
  | lp => exact sread_n g 5 (-128) 127 1 b a e x.p w (h.num (c := .lp) rfl) (hf 5) hb (IntWalk.i64_in _ (by omega))
  | lc =>
    have q := sread_n g 6 0 255 1 b a e x.c w (h.num (c := .lc) rfl) (hf 6) hb (IntWalk.i64_in _ (by omega))
    rw [Int.add_zero] at q
    exact q
  | ln =>
    have q := sread_n g 7 0 281474976710655 6 b a e x.n w (h.num (c := .ln) rfl) (hf 7) hb (IntWalk.i64_in _ (by omega))
    rw [Int.add_zero] at q
    exact q
end Go.Proofs.YtackinamkibmlaaDoor
namespace Go.Proofs.YtackinamkibmlaaDoor
open Go.RowKit
set_option linter.unusedVariables false
set_option linter.unusedSimpArgs false

theorem Bx8.fz {w : World} {x : St} : Fz (w.alloc (.cells #[.int .u8 (x.k.toNat : Int), .string x.u, .string x.r, .string x.m, .int .i64 x.s, .int .i64 x.p, .int .i64 x.c, .int .i64 x.n] 40)) w.heap.size := by
  intro o
  simp [go_sem]
theorem Fz.call {W w1 : World} {g : Nat} (h : Fz W g) (hl : g < W.heap.size) (hb : Below W.heap.size W w1) : Fz w1 g := fun o => (hb.frozen (p := ⟨g, o, none⟩) hl).trans (h o)
theorem head_num {b : ByteArray} (h : 0 < b.size) : numA b 0 0 1 = 1 ∧ numB b 0 0 1 = 0 ∧ numN b 0 0 1 = ((headB b).toNat : Int) := by
  have hc : chk b 0 0 = 0 := chk_ok (Int.le_refl 0) (by omega)
  have hw : wide 1 = true := rfl
  have hl : (1 : Int) ≤ (b.size : Int) - 0 := by omega
  have hp : chk b 0 0 = 0 ∧ wide 1 = true ∧ (1 : Int) ≤ (b.size : Int) - 0 := ⟨hc, hw, hl⟩
  unfold numA numB numN
  rw [if_pos hp, if_pos hp, if_neg (by rw [hc]; decide), if_neg (by decide), if_neg (by omega)]
  refine ⟨by omega, rfl, ?_⟩
  have hd : ∃ c r, b.data.toList = c :: r := by
    cases hl : b.data.toList with
    | nil => rw [sz_list, hl] at h; cases h
    | cons c r => exact ⟨c, r, rfl⟩
  obtain ⟨c, r, hd⟩ := hd
  unfold headB cut
  rw [hd]
  simp [be]
theorem no_num {b : ByteArray} (h : b.size = 0) : numA b 0 0 1 = 0 ∧ numB b 0 0 1 = 3 ∧ numN b 0 0 1 = 0 := by
  have hc : chk b 0 0 = 0 := chk_ok (Int.le_refl 0) (by omega)
  have hn : ¬(chk b 0 0 = 0 ∧ wide 1 = true ∧ (1 : Int) ≤ (b.size : Int) - 0) := by rintro ⟨_, _, q⟩; omega
  refine ⟨if_neg hn, ?_, if_neg hn⟩
  unfold numB
  rw [if_neg (by rw [hc]; decide), if_neg (by decide), if_pos (by omega)]
theorem below_eight {B g : Nat} {a w : World} {x0 x1 x2 x3 x4 x5 x6 x7 : Value} (hb : B ≤ g) (h : Below B a w) :
    Below B a ((((((((w.setCell ⟨g, 0, none⟩ x0).setCell ⟨g, 1, none⟩ x1).setCell ⟨g, 2, none⟩ x2).setCell ⟨g, 3, none⟩ x3).setCell ⟨g, 4, none⟩ x4).setCell ⟨g, 5, none⟩ x5).setCell ⟨g, 6, none⟩ x6).setCell ⟨g, 7, none⟩ x7) :=
  below_setCell hb (below_setCell hb (below_setCell hb (below_setCell hb (below_setCell hb (below_setCell hb (below_setCell hb (below_setCell hb h _) _) _) _) _) _) _) _
theorem Bx8.put {W : World} {g : Nat} {y : St} (h : Bx8 W g y) (x : St) :
    Bx8 ((((((((W.setCell ⟨g, 0, none⟩ (.int .u8 (x.k.toNat : Int))).setCell ⟨g, 1, none⟩ (.string x.u)).setCell ⟨g, 2, none⟩ (.string x.r)).setCell ⟨g, 3, none⟩ (.string x.m)).setCell ⟨g, 4, none⟩ (.int .i64 x.s)).setCell ⟨g, 5, none⟩ (.int .i64 x.p)).setCell ⟨g, 6, none⟩ (.int .i64 x.c)).setCell ⟨g, 7, none⟩ (.int .i64 x.n)) g x := by
  obtain ⟨p0, p1, p2, p3, p4, p5, p6, p7⟩ := h
  refine ⟨?_, ?_, ?_, ?_, ?_, ?_, ?_, ?_⟩ <;> simp [go_sem, p0, p1, p2, p3, p4, p5, p6, p7]
theorem Bx8.zero {W : World} {g : Nat} {y : St} (h : Bx8 W g y) : Bx8 ((((((((W.setCell ⟨g, 0, none⟩ (.int .u8 0)).setCell ⟨g, 1, none⟩ (.string ⟨#[]⟩)).setCell ⟨g, 2, none⟩ (.string ⟨#[]⟩)).setCell ⟨g, 3, none⟩ (.string ⟨#[]⟩)).setCell ⟨g, 4, none⟩ (.int .i64 0)).setCell ⟨g, 5, none⟩ (.int .i64 0)).setCell ⟨g, 6, none⟩ (.int .i64 0)).setCell ⟨g, 7, none⟩ (.int .i64 0)) g (St.nil 0) := h.put (St.nil 0)
theorem Bx8.drew {W : World} {g : Nat} {y : St} (h : Bx8 W g y) : Bx8 W.drew g y := h
theorem gen_body {P : Program} {f : Func} {Q : Ending → World → Prop} {ex : Exit} {a : Act} {W : World} (F : World → Prop) (hF : F W) (h : ∀ wt, F wt → bodyPost P f Q ex a wt) : bodyPost P f Q ex a W := h W hF
theorem Bx8.other {w : World} {b : Nat} {x : St} (h : Bx8 w b x) {p : Addr} (hp : p.block ≠ b) (u : Value) : Bx8 (w.setCell p u) b x := by
  have k : ∀ o, (w.setCell p u).cell? ⟨b, o, none⟩ = w.cell? ⟨b, o, none⟩ := fun o => World.cell?_setCell_other _ _ _ _ (fun e => hp (by rw [e]))
  obtain ⟨h0, h1, h2, h3, h4, h5, h6, h7⟩ := h
  exact ⟨(k 0).trans h0, (k 1).trans h1, (k 2).trans h2, (k 3).trans h3, (k 4).trans h4, (k 5).trans h5, (k 6).trans h6, (k 7).trans h7⟩
theorem Fz.set {w : World} {g : Nat} (h : Fz w g) (p : Addr) (u : Value) : Fz (w.setCell p u) g := by
  intro o
  simpa using h o
theorem OwnF.set {w : World} {B g : Nat} {v : Value} {l : List Lt} (h : OwnF w B v g l) {p : Addr} (hp : p.block < B) (u : Value) : OwnF (w.setCell p u) B v g l := by
  refine ⟨h.1, ?_⟩
  rcases h.2 with h0 | ⟨b, cap, cur, hv, hB, hg, rest⟩
  · exact .inl h0
  · exact .inr ⟨b, cap, cur, hv, hB, (Below.heap_setCell w p u b (by omega)).trans hg, rest⟩
theorem Bx8.upd {w : World} {g : Nat} {x : St} {b : ByteArray} {a e : Int} (h : Bx8 w g x) (c : Lt) : Bx8 (w.setCell ⟨g, c.ix, none⟩ (valF (getF b (a, e, x) c).2.2 c)) g (getF b (a, e, x) c).2.2 := by
  obtain ⟨p0, p1, p2, p3, p4, p5, p6, p7⟩ := h
  cases c <;> refine ⟨?_, ?_, ?_, ?_, ?_, ?_, ?_, ?_⟩ <;> simp [go_sem, getF, valF, txtF, numF, Lt.isT, Lt.ix, p0, p1, p2, p3, p4, p5, p6, p7]
/-- what Read's loop holds on to: the fields, the stanza (block G), the reader (block R), and the answer's block A -/
structure RdS (w0 wx : World) (A R G B : Nat) (v : Value) (L : List Lt) (b : ByteArray) (a e : Int) (y : St) : Prop where
  o : OwnF wx B v G L
  s : Bx8 wx G y
  fs : Fz wx G
  r : Row3 wx R (.string b) (.int .i64 a) (.int .i64 e)
  x : Bx8 wx A (St.nil 0)
  fx : Fz wx A
  bw : Below A w0 wx
  lt : G < wx.heap.size
  ar : A < R
  rg : R < G
  gb : G < B
theorem RdS.call {w0 wx w1 : World} {A R G B : Nat} {v : Value} {L : List Lt} {b : ByteArray} {a e : Int} {y : St} (h : RdS w0 wx A R G B v L b a e y) (hb : Below wx.heap.size wx w1) : RdS w0 w1 A R G B v L b a e y := by
  have q1 := h.lt
  have q2 := h.ar
  have q3 := h.rg
  exact ⟨h.o.call hb, h.s.call hb, h.fs.call q1 hb, h.r.call hb (by omega), h.x.call hb, h.fx.call (by omega) hb, h.bw.trans (hb.mono (by omega)), Nat.lt_of_lt_of_le q1 hb.size, q2, q3, h.gb⟩
theorem RdS.read {w0 wx w1 : World} {A R G B : Nat} {v : Value} {L : List Lt} {b : ByteArray} {a e : Int} {y : St} (h : RdS w0 wx A R G B v L b a e y) (c : Lt) {a' e' : Int}
    (hb : Below wx.heap.size (wx.setCell ⟨G, c.ix, none⟩ (valF (getF b (a', e', y) c).2.2 c)) w1) : RdS w0 w1 A R G B v L b a e (getF b (a', e', y) c).2.2 := by
  have q1 := h.lt
  have q2 := h.ar
  have q3 := h.rg
  have h2 : RdS w0 (wx.setCell ⟨G, c.ix, none⟩ (valF (getF b (a', e', y) c).2.2 c)) A R G B v L b a e (getF b (a', e', y) c).2.2 :=
    ⟨h.o.set h.gb _, h.s.upd c, h.fs.set _ _, h.r.other (show G ≠ R by omega) _, h.x.other (show G ≠ A by omega) _, h.fx.set _ _, below_setCell (show A ≤ G by omega) h.bw _, by rw [World.size_setCell]; exact q1, q2, q3, h.gb⟩
  exact h2.call (by rw [World.size_setCell]; exact hb)
theorem RdS.put {w0 wx : World} {A R G B : Nat} {v : Value} {L : List Lt} {b : ByteArray} {a e : Int} {y : St} (h : RdS w0 wx A R G B v L b a e y) (a' e' : Int) :
    RdS w0 (((wx.setCell ⟨R, 0, none⟩ (.string b)).setCell ⟨R, 1, none⟩ (.int .i64 a')).setCell ⟨R, 2, none⟩ (.int .i64 e')) A R G B v L b a' e' y := by
  have q1 := h.lt
  have q2 := h.ar
  have q3 := h.rg
  have q4 := h.gb
  exact ⟨((h.o.set (show R < B by omega) _).set (show R < B by omega) _).set (show R < B by omega) _, ((h.s.other (show R ≠ G by omega) _).other (show R ≠ G by omega) _).other (show R ≠ G by omega) _, ((h.fs.set _ _).set _ _).set _ _,
    ((h.r.set0 _).set1 _).set2 _, ((h.x.other (show R ≠ A by omega) _).other (show R ≠ A by omega) _).other (show R ≠ A by omega) _, ((h.fx.set _ _).set _ _).set _ _, below_three (by omega) h.bw, by simpa only [World.size_setCell] using q1, q2, q3, q4⟩
theorem textS_le (b : ByteArray) (a e m : Int) : (textS b a e m).size ≤ b.size := by
  unfold textS
  split
  · rw [ByteArray.size_extract]
    omega
  · exact Nat.zero_le _
theorem getF_sml {b : ByteArray} {q : Rd} (hb : b.size ≤ 1000000) (h : Sml q.2.2) (c : Lt) : Sml (getF b q c).2.2 := by
  obtain ⟨h1, h2, h3⟩ := h
  cases c
  · exact ⟨Nat.le_trans (textS_le _ _ _ _) hb, h2, h3⟩
  · exact ⟨h1, Nat.le_trans (textS_le _ _ _ _) hb, h3⟩
  · exact ⟨h1, h2, Nat.le_trans (textS_le _ _ _ _) hb⟩
  · exact ⟨h1, h2, h3⟩
  · exact ⟨h1, h2, h3⟩
  · exact ⟨h1, h2, h3⟩
  · exact ⟨h1, h2, h3⟩
theorem getL_sml {b : ByteArray} (hb : b.size ≤ 1000000) (l : List Lt) : ∀ q : Rd, Sml q.2.2 → Sml (getL b l q).2.2 := by
  induction l with
  | nil => intro q h; exact h
  | cons c l ih =>
    intro q h
    have := ih (getF b q c) (getF_sml hb h c)
    unfold getL at this ⊢
    rw [List.foldl_cons]
    exact this
set_option maxHeartbeats 8000000 in
set_option maxRecDepth 1000000 in
theorem sread_nil (b : ByteArray) (w : World) (hb : b.size ≤ 1000000) (hz : b.size = 0) : Calls Tryd.prog 29 #[.string b] w fun e w' => e = .returned (.tuple #[stzV (rdS b), .int .i64 (rdE b)]) ∧ Below w.heap.size w w' := by
  have c0 := fun W => open_any b W
  have cN := fun W => num_any b 0 0 1 W (by unfold maxLen; omega)
  simp only [numV] at cN
  have hA0 := Lib.hid (Bx8.new w (St.nil 0))
  have hF0 := Lib.hid (Bx8.fz (w := w) (x := St.nil 0))
  obtain ⟨q1, q2, q3⟩ := no_num hz
  rw [q1, q2, q3] at cN
  have HE : Hid (rdE b = 3) := Lib.hid (if_pos hz)
  have HS : Hid (rdS b = St.nil 0) := Lib.hid (rdS_no (by rw [HE.out]; decide))
  clear q1 q2 q3
  go_enter Tryd.func29, Tryd.ntmps29
  go_wp2_with fail
  refine (c0 _).mono ?_; rintro e w1 ⟨rfl, hb1⟩
  go_wp2_with fail
  refine (cN _).mono ?_; rintro e w2 ⟨rfl, hb2⟩
  have HX := Lib.hid ((hA0.out.call hb1).call hb2)
  obtain ⟨p0, p1, p2, p3, p4, p5, p6, p7⟩ := HX.out
  have hl0 : w.heap.size < (w.alloc (.cells #[.int .u8 ((St.nil 0).k.toNat : Int), .string (St.nil 0).u, .string (St.nil 0).r, .string (St.nil 0).m, .int .i64 (St.nil 0).s, .int .i64 (St.nil 0).p, .int .i64 (St.nil 0).c, .int .i64 (St.nil 0).n] 40)).heap.size := by simp
  have FF := (hF0.out.call hl0 hb1).call (Nat.lt_of_lt_of_le hl0 hb1.size) hb2
  have f0 := FF 0; have f1 := FF 1; have f2 := FF 2; have f3 := FF 3; have f4 := FF 4; have f5 := FF 5; have f6 := FF 6; have f7 := FF 7
  have hl2 : w.heap.size < w2.heap.size := Nat.lt_of_lt_of_le (Nat.lt_of_lt_of_le hl0 hb1.size) hb2.size
  have HB := Lib.hid ((((Below.refl _ w).alloc (Nat.le_refl _) _).trans (hb1.mono (Nat.le_of_lt hl0))).trans (hb2.mono (Nat.le_of_lt (Nat.lt_of_lt_of_le hl0 hb1.size))))
  have n0 : w.heap.size ≠ w2.heap.size := by omega
  clear hl0 hb1 hb2 FF
  go_wp2_with fail
  go_region_with (fail)
  all_goals go_wp2_with fail
  all_goals have hX' := (Bx8.zero HX.out).call ((Below.refl _ _).alloc (Nat.le_refl _) (.cells #[.string b, .int .i64 0, .int .i64 3] 76))
  all_goals have hB8 := below_eight (x0 := .int .u8 0) (x1 := .string ⟨#[]⟩) (x2 := .string ⟨#[]⟩) (x3 := .string ⟨#[]⟩) (x4 := .int .i64 0) (x5 := .int .i64 0) (x6 := .int .i64 0) (x7 := .int .i64 0) (Nat.le_refl _) HB.out
  all_goals have hB' := (hB8.alloc hB8.size (.cells #[.string b, .int .i64 0, .int .i64 3] 76)).drew
  all_goals refine gen_body (fun wt => Bx8 wt w.heap.size (St.nil 0) ∧ Below w.heap.size w wt) ⟨hX'.drew, hB'⟩ ?_
  all_goals rintro wt ⟨⟨s0, s1, s2, s3, s4, s5, s6, s7⟩, hBt⟩
  all_goals refine bodyPost_ret (v := .tuple #[.agg #[.int .u8 0, .string ⟨#[]⟩, .string ⟨#[]⟩, .string ⟨#[]⟩, .int .i64 0, .int .i64 0, .int .i64 0, .int .i64 0], .int .i64 3]) (by simp [results, Tryd.results29, go_sem, s0, s1, s2, s3, s4, s5, s6, s7]; exact ⟨rfl, rfl, rfl, rfl, rfl, rfl, rfl, rfl⟩) rfl ⟨by rw [HS.out, HE.out]; rfl, hBt⟩
end Go.Proofs.YtackinamkibmlaaDoor
namespace Go.Proofs.YtackinamkibmlaaDoor
open Go.RowKit
set_option linter.unusedVariables false
set_option linter.unusedSimpArgs false

set_option maxHeartbeats 8000000 in
set_option maxRecDepth 1000000 in
theorem sread_no (b : ByteArray) (k : UInt8) (w : World) (hb : b.size ≤ 1000000) (hz : 0 < b.size) (hk : headB b = k) (hK : knownB k.toNat = false) (hE : Hid (rdE b = 12)) (hS : Hid (rdS b = St.nil 0)) :
    Calls Tryd.prog 29 #[.string b] w fun e w' => e = .returned (.tuple #[stzV (rdS b), .int .i64 (rdE b)]) ∧ Below w.heap.size w w' := by
  have c0 := fun W => open_any b W
  have cN := fun W => num_any b 0 0 1 W (by unfold maxLen; omega)
  simp only [numV] at cN
  have hA0 := Lib.hid (Bx8.new w (St.nil 0))
  have hF0 := Lib.hid (Bx8.fz (w := w) (x := St.nil 0))
  obtain ⟨q1, q2, q3⟩ := head_num hz
  rw [q1, q2, q3, hk] at cN
  clear q1 q2 q3
  have hku : IntKind.u8.wrap (k.toNat : Int) = (k.toNat : Int) := by
    have := UInt8.toNat_lt k
    rw [IntKind.wrap_u8]
    omega
  have cK := fun W => skind_any k W
  rw [hK] at cK
  go_enter Tryd.func29, Tryd.ntmps29
  go_wp2_with fail
  refine (c0 _).mono ?_; rintro e w1 ⟨rfl, hb1⟩
  go_wp2_with fail
  refine (cN _).mono ?_; rintro e w2 ⟨rfl, hb2⟩
  have HX := Lib.hid ((hA0.out.call hb1).call hb2)
  have hl0 : w.heap.size < (w.alloc (.cells #[.int .u8 ((St.nil 0).k.toNat : Int), .string (St.nil 0).u, .string (St.nil 0).r, .string (St.nil 0).m, .int .i64 (St.nil 0).s, .int .i64 (St.nil 0).p, .int .i64 (St.nil 0).c, .int .i64 (St.nil 0).n] 40)).heap.size := by simp
  have FF := Lib.hid ((hF0.out.call hl0 hb1).call (Nat.lt_of_lt_of_le hl0 hb1.size) hb2)
  have hl2 : w.heap.size < w2.heap.size := Nat.lt_of_lt_of_le (Nat.lt_of_lt_of_le hl0 hb1.size) hb2.size
  have HB := Lib.hid ((((Below.refl _ w).alloc (Nat.le_refl _) _).trans (hb1.mono (Nat.le_of_lt hl0))).trans (hb2.mono (Nat.le_of_lt (Nat.lt_of_lt_of_le hl0 hb1.size))))
  have HL := Lib.hid hl2
  clear hl0 hb1 hb2 hl2 cN c0
  go_wp2_with fail
  refine (cK _).mono ?_; rintro e w3 ⟨rfl, hb3⟩
  have HB2 := Lib.hid ((HB.out.alloc HB.out.size (.cells #[.string b, .int .i64 1, .int .i64 0] 76)))
  have HB3 := Lib.hid (HB2.out.alloc HB2.out.size (.cells #[.int .u8 (k.toNat : Int), .string ⟨#[]⟩, .string ⟨#[]⟩, .string ⟨#[]⟩, .int .i64 0, .int .i64 0, .int .i64 0, .int .i64 0] 40))
  have HB4 := Lib.hid (HB3.out.trans (hb3.mono HB3.out.size))
  have hs2 : w.heap.size < (w2.alloc (.cells #[.string b, .int .i64 1, .int .i64 0] 76)).heap.size := by simp only [World.size_alloc]; exact Nat.lt_succ_of_lt HL.out
  have X4 := Lib.hid (((HX.out.call ((Below.refl _ w2).alloc (Nat.le_refl _) (.cells #[.string b, .int .i64 1, .int .i64 0] 76))).call ((Below.refl _ _).alloc (Nat.le_refl _) (.cells #[.int .u8 (k.toNat : Int), .string ⟨#[]⟩, .string ⟨#[]⟩, .string ⟨#[]⟩, .int .i64 0, .int .i64 0, .int .i64 0, .int .i64 0] 40))).call hb3)
  have F4 := Lib.hid (((FF.out.call HL.out ((Below.refl _ w2).alloc (Nat.le_refl _) (.cells #[.string b, .int .i64 1, .int .i64 0] 76))).call hs2 ((Below.refl _ _).alloc (Nat.le_refl _) (.cells #[.int .u8 (k.toNat : Int), .string ⟨#[]⟩, .string ⟨#[]⟩, .string ⟨#[]⟩, .int .i64 0, .int .i64 0, .int .i64 0, .int .i64 0] 40))).call (Nat.lt_of_lt_of_le hs2 (by simp only [World.size_alloc]; omega)) hb3)
  obtain ⟨p0, p1, p2, p3, p4, p5, p6, p7⟩ := X4.out
  have f0 := F4.out 0; have f1 := F4.out 1; have f2 := F4.out 2; have f3 := F4.out 3; have f4 := F4.out 4; have f5 := F4.out 5; have f6 := F4.out 6; have f7 := F4.out 7
  clear hb3 hs2
  go_wp2_with fail
  refine gen_body (fun wt => Bx8 wt w.heap.size (St.nil 0) ∧ Below w.heap.size w wt) ⟨Bx8.zero X4.out, below_eight (Nat.le_refl _) HB4.out⟩ ?_
  rintro wt ⟨⟨s0, s1, s2, s3, s4, s5, s6, s7⟩, hBt⟩
  refine bodyPost_ret (v := .tuple #[.agg #[.int .u8 0, .string ⟨#[]⟩, .string ⟨#[]⟩, .string ⟨#[]⟩, .int .i64 0, .int .i64 0, .int .i64 0, .int .i64 0], .int .i64 12]) (by simp [results, Tryd.results29, go_sem, s0, s1, s2, s3, s4, s5, s6, s7]; exact ⟨rfl, rfl, rfl, rfl, rfl, rfl, rfl, rfl⟩) rfl ⟨by rw [hS.out, hE.out]; rfl, hBt⟩
end Go.Proofs.YtackinamkibmlaaDoor
namespace Go.Proofs.YtackinamkibmlaaDoor
open Go.RowKit
set_option linter.unusedVariables false
set_option linter.unusedSimpArgs false

theorem Row3.new (w : World) (b : ByteArray) (a e : Int) : Row3 (w.alloc (.cells #[.string b, .int .i64 a, .int .i64 e] 76)) w.heap.size (.string b) (.int .i64 a) (.int .i64 e) := by
  simp [Row3, go_sem]
set_option maxHeartbeats 8000000 in
set_option maxRecDepth 1000000 in
theorem sread_yes (b : ByteArray) (k : UInt8) (w : World) (hT : Tabs9 w) (hb : b.size ≤ 1000000) (hz : 0 < b.size) (hk : headB b = k) (hK : knownB k.toNat = true) (a e : Int) (y : St) (hQ : getL b (hasL k.toNat) (1, 0, St.nil k) = (a, e, y))
    (hE : Hid (rdE b = if doneN b a e = 0 then chkS y else doneN b a e)) (hS : Hid (rdS b = if rdE b = 0 then y else St.nil 0)) :
    Calls Tryd.prog 29 #[.string b] w fun e w' => e = .returned (.tuple #[stzV (rdS b), .int .i64 (rdE b)]) ∧ Below w.heap.size w w' := by
  have hsy : Sml y := by
    have := getL_sml hb (hasL k.toNat) (1, 0, St.nil k) (sml_nil k)
    rw [hQ] at this
    exact this
  have hlen : (hasL k.toNat).length ≤ 7 := has_all (fun l => l.length ≤ 7) (by decide) k.toNat
  have cF := fun g W h => flds_any g k W h
  generalize hasL k.toNat = L at hQ hlen cF
  have c0 := fun W => open_any b W
  have cN := fun W => num_any b 0 0 1 W (by unfold maxLen; omega)
  simp only [numV] at cN
  have hA0 := Lib.hid (Bx8.new w (St.nil 0))
  have hF0 := Lib.hid (Bx8.fz (w := w) (x := St.nil 0))
  obtain ⟨q1, q2, q3⟩ := head_num hz
  rw [q1, q2, q3, hk] at cN
  clear q1 q2 q3
  have hku : IntKind.u8.wrap (k.toNat : Int) = (k.toNat : Int) := by
    have := UInt8.toNat_lt k
    rw [IntKind.wrap_u8]
    omega
  have cK := fun W => skind_any k W
  rw [hK] at cK
  go_enter Tryd.func29, Tryd.ntmps29
  go_wp2_with fail
  refine (c0 _).mono ?_; rintro e w1 ⟨rfl, hb1⟩
  go_wp2_with fail
  refine (cN _).mono ?_; rintro e w2 ⟨rfl, hb2⟩
  have HX := Lib.hid ((hA0.out.call hb1).call hb2)
  have hl0 : w.heap.size < (w.alloc (.cells #[.int .u8 ((St.nil 0).k.toNat : Int), .string (St.nil 0).u, .string (St.nil 0).r, .string (St.nil 0).m, .int .i64 (St.nil 0).s, .int .i64 (St.nil 0).p, .int .i64 (St.nil 0).c, .int .i64 (St.nil 0).n] 40)).heap.size := by simp
  have FF := Lib.hid ((hF0.out.call hl0 hb1).call (Nat.lt_of_lt_of_le hl0 hb1.size) hb2)
  have hl2 : w.heap.size < w2.heap.size := Nat.lt_of_lt_of_le (Nat.lt_of_lt_of_le hl0 hb1.size) hb2.size
  have HB := Lib.hid ((((Below.refl _ w).alloc (Nat.le_refl _) _).trans (hb1.mono (Nat.le_of_lt hl0))).trans (hb2.mono (Nat.le_of_lt (Nat.lt_of_lt_of_le hl0 hb1.size))))
  have HL := Lib.hid hl2
  clear hl0 hb1 hb2 hl2 cN c0
  go_wp2_with fail
  have HB2 := Lib.hid (HB.out.alloc HB.out.size (.cells #[.string b, .int .i64 1, .int .i64 0] 76))
  have HB3 := Lib.hid (HB2.out.alloc HB2.out.size (.cells #[.int .u8 (k.toNat : Int), .string ⟨#[]⟩, .string ⟨#[]⟩, .string ⟨#[]⟩, .int .i64 0, .int .i64 0, .int .i64 0, .int .i64 0] 40))
  have hs2 : w.heap.size < (w2.alloc (.cells #[.string b, .int .i64 1, .int .i64 0] 76)).heap.size := by simp only [World.size_alloc]; exact Nat.lt_succ_of_lt HL.out
  have hs3 : w.heap.size < ((w2.alloc (.cells #[.string b, .int .i64 1, .int .i64 0] 76)).alloc (.cells #[.int .u8 (k.toNat : Int), .string ⟨#[]⟩, .string ⟨#[]⟩, .string ⟨#[]⟩, .int .i64 0, .int .i64 0, .int .i64 0, .int .i64 0] 40)).heap.size := by simp only [World.size_alloc]; have := HL.out; omega
  have X4 := Lib.hid ((HX.out.call ((Below.refl _ w2).alloc (Nat.le_refl _) (.cells #[.string b, .int .i64 1, .int .i64 0] 76))).call ((Below.refl _ _).alloc (Nat.le_refl _) (.cells #[.int .u8 (k.toNat : Int), .string ⟨#[]⟩, .string ⟨#[]⟩, .string ⟨#[]⟩, .int .i64 0, .int .i64 0, .int .i64 0, .int .i64 0] 40)))
  have F4 := Lib.hid ((FF.out.call HL.out ((Below.refl _ w2).alloc (Nat.le_refl _) (.cells #[.string b, .int .i64 1, .int .i64 0] 76))).call hs2 ((Below.refl _ _).alloc (Nat.le_refl _) (.cells #[.int .u8 (k.toNat : Int), .string ⟨#[]⟩, .string ⟨#[]⟩, .string ⟨#[]⟩, .int .i64 0, .int .i64 0, .int .i64 0, .int .i64 0] 40)))
  have R4 := Lib.hid ((Row3.new w2 b 1 0).call ((Below.refl _ _).alloc (Nat.le_refl _) (.cells #[.int .u8 (k.toNat : Int), .string ⟨#[]⟩, .string ⟨#[]⟩, .string ⟨#[]⟩, .int .i64 0, .int .i64 0, .int .i64 0, .int .i64 0] 40)) (by simp))
  have S4 := Lib.hid (show Bx8 ((w2.alloc (.cells #[.string b, .int .i64 1, .int .i64 0] 76)).alloc (.cells #[.int .u8 (k.toNat : Int), .string ⟨#[]⟩, .string ⟨#[]⟩, .string ⟨#[]⟩, .int .i64 0, .int .i64 0, .int .i64 0, .int .i64 0] 40)) (w2.heap.size + 1) (St.nil k) from by
    have h := Bx8.new (w2.alloc (.cells #[.string b, .int .i64 1, .int .i64 0] 76)) (St.nil k)
    rw [World.size_alloc] at h
    exact h)
  have G4 := Lib.hid (show Fz ((w2.alloc (.cells #[.string b, .int .i64 1, .int .i64 0] 76)).alloc (.cells #[.int .u8 (k.toNat : Int), .string ⟨#[]⟩, .string ⟨#[]⟩, .string ⟨#[]⟩, .int .i64 0, .int .i64 0, .int .i64 0, .int .i64 0] 40)) (w2.heap.size + 1) from by
    have h := Bx8.fz (w := w2.alloc (.cells #[.string b, .int .i64 1, .int .i64 0] 76)) (x := St.nil k)
    rw [World.size_alloc] at h
    exact h)
  have hlG : w2.heap.size + 1 < ((w2.alloc (.cells #[.string b, .int .i64 1, .int .i64 0] 76)).alloc (.cells #[.int .u8 (k.toNat : Int), .string ⟨#[]⟩, .string ⟨#[]⟩, .string ⟨#[]⟩, .int .i64 0, .int .i64 0, .int .i64 0, .int .i64 0] 40)).heap.size := by simp
  refine (cK _).mono ?_; rintro e0 w3 ⟨rfl, hb3⟩
  have Z0 := Lib.hid (show RdS w w3 w.heap.size w2.heap.size (w2.heap.size + 1) (w2.heap.size + 2) (.slice none 0 0) [] b 1 0 (St.nil k) from
    ⟨World.ownsRow_nil _ _ _ _, S4.out.call hb3, G4.out.call hlG hb3, R4.out.call hb3 (by omega), X4.out.call hb3, F4.out.call hs3 hb3, HB3.out.trans (hb3.mono HB3.out.size), Nat.lt_of_lt_of_le hlG hb3.size, HL.out, Nat.lt_succ_self _, Nat.lt_succ_self _⟩)
  have HL3 := Lib.hid (Nat.lt_of_lt_of_le hlG hb3.size)
  clear hb3 hs2 hs3 hlG X4 F4 R4 S4 G4 HB2 HB3 HX FF HB cK
  obtain ⟨R, hR⟩ : ∃ R, w2.heap.size = R := ⟨_, rfl⟩
  rw [hR] at Z0 HL HL3 ⊢
  clear hR
  go_wp2_with fail
  refine (cF (R + 1) _ Z0.out.s.1).mono ?_; rintro e0 w4 ⟨v, rfl, hv, hb4⟩
  have Z1 := Lib.hid (show RdS w w4 w.heap.size R (R + 1) w3.heap.size v L b 1 0 (St.nil k) from { Z0.out.call hb4 with o := hv, gb := HL3.out })
  obtain ⟨p, cap, rfl⟩ := hv.slice
  clear hv hb4 Z0 cF
  generalize w3.heap.size = B at Z1
  clear HL3
  go_wp2_with fail
  go_loopg [33] 8 (fun gf s33 wx => ∃ (i : Nat) (a1 e1 : Int) (y1 : St), s33 = .int .i64 i ∧ i + gf = 8 ∧ i ≤ L.length ∧ getL b (L.take i) (1, 0, St.nil k) = (a1, e1, y1) ∧ RdS w wx w.heap.size R (R + 1) B (.slice p L.length cap) L b a1 e1 y1)
  case atStart => exact ⟨0, 1, 0, St.nil k, rfl, rfl, Nat.zero_le _, rfl, Z1.out⟩
  case round =>
    obtain ⟨i, a1, e1, y1, rfl, hig, hil, hget, hz1⟩ := hrel
    by_cases hlt : i < L.length
    · obtain ⟨g', rfl⟩ : ∃ g', gk = g' + 1 := ⟨gk - 1, by omega⟩
      obtain ⟨bb, cap', hsl, hBb, hbl, k0, k1, k2, k3, k4⟩ := hz1.o.at hlt
      injection hsl with h1 h2 h3
      subst h1
      subst h3
      have HG := Lib.hid (getL_take b L (1, 0, St.nil k) i hlt)
      obtain ⟨c, hcc⟩ : ∃ c, L[i] = c := ⟨_, rfl⟩
      rw [hcc] at k0 k1 k2 k3 k4 HG
      rw [hget] at HG
      have Z2 := Lib.hid hz1
      obtain ⟨⟨r0, r1, r2⟩, u0, u1, u2⟩ := hz1.r
      have hRl : R < wr.heap.size := by have := hz1.lt; omega
      have HRl := Lib.hid hRl
      obtain ⟨pa, pb, q1, q2⟩ := fld_ptrs (R + 1) c
      have cl := Lib.hid (fun W h hf => sread_f c (R + 1) y1 b a1 e1 W h hf hb)
      dsimp only [fldV] at cl
      rw [q1, q2] at cl
      rw [q1] at k0
      rw [q2] at k1
      generalize hlo : c.least = lo at k2 cl
      generalize hhi : c.most = hi at k3 cl
      generalize hwd : c.wid = wd at k4 cl
      clear q1 q2 hlo hhi hwd hcc hz1
      have Z3 := Lib.hid (Z2.out.call ((Below.refl _ wr).alloc (Nat.le_refl _) (.cells #[.pointer pa, .pointer pb, .int .i64 lo, .int .i64 hi, .int .i64 wd] 87)))
      go_wp2_with fail
      refine (cl.out _ Z3.out.s Z3.out.fs).mono ?_; rintro e0 w5 ⟨rfl, hb5⟩
      have Z4 := Lib.hid (Z3.out.read c hb5)
      clear hb5 Z2 Z3 cl
      generalize getF b (a1, e1, y1) c = q at HG Z4
      obtain ⟨a2, e2, y2⟩ := q
      obtain ⟨⟨v0, v1, v2⟩, t0, t1, t2⟩ := Z4.out.r
      have HRl5 := Z4.out.lt
      clear r0 r1 r2 u0 u1 u2 k0 k1 k2 k3 k4
      go_wp2_with fail
      have Z5 := Lib.hid (Z4.out.put a2 e2)
      clear v0 v1 v2 t0 t1 t2
      go_roundg g'
      case measure => omega
      case rel => exact ⟨i + 1, a2, e2, y2, by simp, by omega, by omega, HG.out, Z5.out⟩
    · have hi : i = L.length := by omega
      subst hi
      rw [List.take_length, hQ] at hget
      cases hget
      have Z2 := Lib.hid hz1
      obtain ⟨⟨r0, r1, r2⟩, u0, u1, u2⟩ := hz1.r
      have cD := fun W => done_any b a e W (by unfold maxLen; omega)
      have cC := Lib.hid (fun W hW => scheck_any y W hW hsy)
      clear hz1
      by_cases hd : doneN b a e = 0
      · rw [if_pos hd] at hE
        rw [hd] at cD
        by_cases hc : chkS y = 0
        · rw [hc] at cC hE
          have hS' : Hid (rdS b = y) := Lib.hid (by rw [hS.out, if_pos hE.out])
          go_wp2_with fail
          refine (cD _).mono ?_; rintro e0 w6 ⟨rfl, hb6⟩
          have Z6 := Lib.hid (Z2.out.call hb6)
          clear hb6 Z2
          obtain ⟨s0, s1, s2, s3, s4, s5, s6, s7⟩ := Z6.out.s
          go_wp2_with fail
          refine (cC.out _ (hT.call Z6.out.bw)).mono ?_; rintro e0 w7 ⟨rfl, hb7⟩
          have Z7 := Lib.hid (Z6.out.call hb7)
          clear hb7 Z6 s0 s1 s2 s3 s4 s5 s6 s7
          obtain ⟨s0, s1, s2, s3, s4, s5, s6, s7⟩ := Z7.out.s
          obtain ⟨p0, p1, p2, p3, p4, p5, p6, p7⟩ := Z7.out.x
          have f0 := Z7.out.fx 0; have f1 := Z7.out.fx 1; have f2 := Z7.out.fx 2; have f3 := Z7.out.fx 3; have f4 := Z7.out.fx 4; have f5 := Z7.out.fx 5; have f6 := Z7.out.fx 6; have f7 := Z7.out.fx 7
          go_wp2_with fail
          refine gen_body (fun wt => Bx8 wt w.heap.size y ∧ Below w.heap.size w wt) ⟨Bx8.put Z7.out.x y, below_eight (Nat.le_refl _) Z7.out.bw⟩ ?_
          clear s0 s1 s2 s3 s4 s5 s6 s7
          rintro wt ⟨⟨s0, s1, s2, s3, s4, s5, s6, s7⟩, hBt⟩
          refine bodyPost_ret (v := .tuple #[stzV y, .int .i64 0]) (by simp [results, Tryd.results29, go_sem, s0, s1, s2, s3, s4, s5, s6, s7]) rfl ⟨by rw [hS'.out, hE.out], hBt⟩
        · have hS' : Hid (rdS b = St.nil 0) := Lib.hid (by rw [hS.out, if_neg (by rw [hE.out]; exact hc)])
          have hc' : (chkS y != 0) = true := by simpa using hc
          generalize chkS y = E at cC hE hc' hc
          go_wp2_with fail
          refine (cD _).mono ?_; rintro e0 w6 ⟨rfl, hb6⟩
          have Z6 := Lib.hid (Z2.out.call hb6)
          clear hb6 Z2
          obtain ⟨s0, s1, s2, s3, s4, s5, s6, s7⟩ := Z6.out.s
          go_wp2_with fail
          refine (cC.out _ (hT.call Z6.out.bw)).mono ?_; rintro e0 w7 ⟨rfl, hb7⟩
          have Z7 := Lib.hid (Z6.out.call hb7)
          clear hb7 Z6 s0 s1 s2 s3 s4 s5 s6 s7
          obtain ⟨p0, p1, p2, p3, p4, p5, p6, p7⟩ := Z7.out.x
          have f0 := Z7.out.fx 0; have f1 := Z7.out.fx 1; have f2 := Z7.out.fx 2; have f3 := Z7.out.fx 3; have f4 := Z7.out.fx 4; have f5 := Z7.out.fx 5; have f6 := Z7.out.fx 6; have f7 := Z7.out.fx 7
          go_wp2_with fail
          refine gen_body (fun wt => Bx8 wt w.heap.size (St.nil 0) ∧ Below w.heap.size w wt) ⟨Bx8.zero Z7.out.x, below_eight (Nat.le_refl _) Z7.out.bw⟩ ?_
          rintro wt ⟨⟨s0, s1, s2, s3, s4, s5, s6, s7⟩, hBt⟩
          refine bodyPost_ret (v := .tuple #[.agg #[.int .u8 0, .string ⟨#[]⟩, .string ⟨#[]⟩, .string ⟨#[]⟩, .int .i64 0, .int .i64 0, .int .i64 0, .int .i64 0], .int .i64 (E)]) (by simp [results, Tryd.results29, go_sem, s0, s1, s2, s3, s4, s5, s6, s7]; exact ⟨rfl, rfl, rfl, rfl, rfl, rfl, rfl, rfl⟩) rfl ⟨by rw [hS'.out, hE.out]; rfl, hBt⟩
      · rw [if_neg hd] at hE
        have hS' : Hid (rdS b = St.nil 0) := Lib.hid (by rw [hS.out, if_neg (by rw [hE.out]; exact hd)])
        have hd' : (doneN b a e != 0) = true := by simpa using hd
        generalize doneN b a e = E at cD hE hd' hd
        go_wp2_with fail
        refine (cD _).mono ?_; rintro e0 w6 ⟨rfl, hb6⟩
        have Z7 := Lib.hid (Z2.out.call hb6)
        clear hb6 Z2
        obtain ⟨p0, p1, p2, p3, p4, p5, p6, p7⟩ := Z7.out.x
        have f0 := Z7.out.fx 0; have f1 := Z7.out.fx 1; have f2 := Z7.out.fx 2; have f3 := Z7.out.fx 3; have f4 := Z7.out.fx 4; have f5 := Z7.out.fx 5; have f6 := Z7.out.fx 6; have f7 := Z7.out.fx 7
        go_wp2_with fail
        refine gen_body (fun wt => Bx8 wt w.heap.size (St.nil 0) ∧ Below w.heap.size w wt) ⟨Bx8.zero Z7.out.x, below_eight (Nat.le_refl _) Z7.out.bw⟩ ?_
        rintro wt ⟨⟨s0, s1, s2, s3, s4, s5, s6, s7⟩, hBt⟩
        refine bodyPost_ret (v := .tuple #[.agg #[.int .u8 0, .string ⟨#[]⟩, .string ⟨#[]⟩, .string ⟨#[]⟩, .int .i64 0, .int .i64 0, .int .i64 0, .int .i64 0], .int .i64 (E)]) (by simp [results, Tryd.results29, go_sem, s0, s1, s2, s3, s4, s5, s6, s7]; exact ⟨rfl, rfl, rfl, rfl, rfl, rfl, rfl, rfl⟩) rfl ⟨by rw [hS'.out, hE.out]; rfl, hBt⟩
theorem sread_any (b : ByteArray) (w : World) (hT : Tabs9 w) (hb : b.size ≤ 1000000) : Calls Tryd.prog 29 #[.string b] w fun e w' => e = .returned (.tuple #[stzV (rdS b), .int .i64 (rdE b)]) ∧ Below w.heap.size w w' := by
  by_cases hz : b.size = 0
  · exact sread_nil b w hb hz
  · have hz' : 0 < b.size := by omega
    by_cases hK : knownB (headB b).toNat = false
    · have hE : rdE b = 12 := by unfold rdE; rw [if_neg hz, if_pos hK]
      exact sread_no b (headB b) w hb hz' rfl hK hE (rdS_no (by rw [hE]; decide))
    · obtain ⟨hW2, hWd⟩ := readW_eq hz'
      obtain ⟨q, hq⟩ : ∃ q, readW b = q := ⟨_, rfl⟩
      rw [hq] at hW2 hWd
      obtain ⟨a, e, y⟩ := q
      have hE : rdE b = if doneN b a e = 0 then chkS y else doneN b a e := by
        rw [hWd]
        unfold rdE
        rw [if_neg hz, if_neg hK, ← hW2]
      have hS : rdS b = if rdE b = 0 then y else St.nil 0 := by
        unfold rdS
        rw [← hW2]
      exact sread_yes b (headB b) w hT hb hz' rfl (by simpa using hK) a e y hq hE hS
end Go.Proofs.YtackinamkibmlaaDoor
