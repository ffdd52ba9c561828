/- Layer 5, the program's: contracts: New, All, Find. -/
import Derived.Test.YtphgilgmoeliaaaF5D
import Derived.Laws.MakeOwn
import Derived.Deep.AppendLies
import Derived.Deep.RegionLaw
namespace Go.Proofs.Ytphgilgmoeliaaa
open Go.RowKit
set_option linter.unusedVariables false
set_option linter.unusedSimpArgs false

theorem step_append_own {P : Program} {w : World} {ops : Array Oper} {o : Oper} {a : Act} {K : Act → World → Prop} {Q : Exit → Act → World → Prop} {E : Prop} (hgd : o.guard = none) (s x : Operand) (t : TypeId)
    (ho : o.op = .call { callee := .builtin .append, args := #[s, x], argTypes := #[t, t] })
    (base : Nat) (e : TypeId) (i : TypeInfo) (z : Value) (size bytes : Nat) (ht : P.underlying t = some (.slice e)) (hi : P.info? e = some i) (hz : i.zero = some z)
    (hsize : i.size = size) (hby : i.bytes = bytes) (hzs : z.cells.size = size) (hsz : 0 < size)
    (v : Value) (n : Nat) (xs : List Value) (hs : a.eval s = v) (hown : w.ownsRow base e size v n xs)
    (ad : Addr) (m c : Nat) (news : List Value) (hx : a.eval x = .slice (some ad) m c) (hl : news.length = m * size) (hnews : ∀ j u, news[j]? = some u → w.cell? (ad.add j) = some u) (h1 : ∀ u ∈ news, u.oneCell' = true)
    (h63 : n + m ≤ maxLen) (hbytes : (n + m) * bytes ≤ 140737488355328) (hbase : base ≤ w.heap.size)
    (h : ∀ v' w', w'.ownsRow base e size v' (n + m) (xs ++ news) → w.grownBy w' v.ownBlock → K (a.put o.dst v') w') : if Region.wanted o (yielded ops a.tmps) = true then Oper.wp P o a w K Q else E := by
  have hw : Region.wanted o (yielded ops a.tmps) = true := by simp [Region.wanted, hgd]
  rw [if_pos hw]
  exact wp_append_own w s x t ho base e i z size bytes ht hi hz hsize hby hzs hsz v n xs hs hown ad m c news hx hl hnews h1 h63 hbytes hbase fun v' w' h2 h3 _ => h v' w' h2 h3

theorem rowI_shape {w : World} {B : Nat} {v : Value} {l : List Int} (h : OwnI w B v l) : ∃ ao cap, v = .slice ao l.length cap := by
  rcases h.2 with ⟨hv, h0⟩ | ⟨g, cap, cur, hv, _⟩
  · exact ⟨none, 0, by rw [hv, h0]⟩
  · exact ⟨_, _, hv⟩
theorem own_take {w : World} {B k : Nat} {v : Value} {L : List Int} (hk : k ≤ L.length) (h : OwnI w B v (L.take k)) : w.ownsRow B 3 1 v k ((L.take k).map (Value.int .i64)) := by
  unfold OwnI at h; rw [List.length_take, Nat.min_eq_left hk] at h; exact h
theorem made_int (N : Nat) : madeCells (Value.int .i64 0).cells N = (List.replicate N (Value.int .i64 0)).toArray := by
  have hz : (Value.int .i64 0).cells = #[.int .i64 0] := by simp [Value.cells]
  rw [hz]
  apply Array.ext
  · simp [madeCells]
  · intro i h1 h2
    simp [madeCells, Nat.mod_one]

theorem new_no (n : Int) (w : World) (hn : n < 1 ∨ 64 < n) : Calls Try.prog 8 #[.int .i64 n] w fun e w' => e = .returned (.tuple #[.pointer none, .int .i64 8]) ∧ Below w.heap.size w w' := by
  by_cases h1 : n < 1
  · clear hn
    go_enter Try.func8, Try.ntmps8
    go_wp2
    go_ret2
    exact ⟨rfl, by (repeat (first | (with_reducible exact Below.refl _ _) | ((with_reducible refine below_alloc ?_ ?_ _); · (first | omega | (simp; done) | (simp; omega))) | ((with_reducible refine below_setCell ?_ ?_ _); · (first | omega | (simp; done) | (simp; omega))) | (with_reducible refine Below.drew ?_) | (with_reducible refine below_drewN ?_ _) | ((with_reducible refine below_call (by assumption) ?_ ?_); · (first | omega | (simp; done) | (simp; omega)))))⟩
  · have h2 : 64 < n := by omega
    clear hn
    go_enter Try.func8, Try.ntmps8
    go_wp2
    go_ret2
    exact ⟨rfl, by (repeat (first | (with_reducible exact Below.refl _ _) | ((with_reducible refine below_alloc ?_ ?_ _); · (first | omega | (simp; done) | (simp; omega))) | ((with_reducible refine below_setCell ?_ ?_ _); · (first | omega | (simp; done) | (simp; omega))) | (with_reducible refine Below.drew ?_) | (with_reducible refine below_drewN ?_ _) | ((with_reducible refine below_call (by assumption) ?_ ?_); · (first | omega | (simp; done) | (simp; omega)))))⟩
theorem new_yes (N : Nat) (w : World) (h1 : 1 ≤ N) (h2 : N ≤ 64) : Calls Try.prog 8 #[.int .i64 N] w fun e w' => ∃ g h, e = .returned (.tuple #[ptrV g, .int .i64 0]) ∧ IsR w' g h N [] ∧ w.heap.size ≤ g ∧ w.heap.size ≤ h ∧ Below w.heap.size w w' := by
  obtain ⟨i1, hi1, hk0, hk1, hk2⟩ := info_parts info_int
  obtain ⟨M, hM⟩ : ∃ M, M = madeCells (Value.int .i64 0).cells (N * i1.size) := ⟨_, rfl⟩
  have hM2 : M = (List.replicate N (Value.int .i64 0)).toArray := by rw [hM, hk1, Nat.mul_one, made_int]
  have hmk : ∀ W : World, (Instr.makeSlice 28 (.int .i64 (N : Int)) (.int .i64 (N : Int))).run Try.prog W = .ok (.slice (some ⟨W.heap.size, 0, none⟩) N N) (W.alloc (.cells M 3)) := fun W => by
    have h := run_make (P := Try.prog) W 28 3 i1 (.int .i64 0) Try.underlying28 hi1 hk0 .i64 .i64 (N : Int) (N : Int) (by omega) (by omega) (by rw [hk2]; omega) (by omega)
    simp only [Int.toNat_natCast] at h
    rw [← hM] at h
    exact h
  have h1' : (1 : Int) ≤ N := by omega
  have h2' : (N : Int) ≤ 64 := by omega
  have HM := Lib.hid hM2
  clear hM hM2
  go_enter Try.func8, Try.ntmps8
  go_wp2
  go_ret2
  refine ⟨w.heap.size + 1, w.heap.size, ?_, ⟨0, fun _ => 0, ?_, fun i hi => by cases hi⟩, by omega, by omega, by (repeat (first | (with_reducible exact Below.refl _ _) | ((with_reducible refine below_alloc ?_ ?_ _); · (first | omega | (simp; done) | (simp; omega))) | ((with_reducible refine below_setCell ?_ ?_ _); · (first | omega | (simp; done) | (simp; omega))) | (with_reducible refine Below.drew ?_) | (with_reducible refine below_drewN ?_ _) | ((with_reducible refine below_call (by assumption) ?_ ?_); · (first | omega | (simp; done) | (simp; omega)))))⟩
  · first | rfl | (simp; done)
  · have hcell : ∀ j, j < N → M[j]? = some (Value.int .i64 0) := fun j hj => by rw [HM.out]; simp [hj]
    refine ⟨by omega, ?_, ?_, ?_, ?_, ?_, ?_, by omega, h2, by simp⟩
    · simp [go_sem]
    · simp [go_sem]
    · simp [go_sem]
    · intro o; simp [go_sem]
    · intro j hj
      have := hcell j hj
      simp [go_sem]
      exact this
    · intro j; simp [go_sem]

/-- where a number stands -/
def findF : List Int → Int → Nat → Int
  | [], _, _ => -1
  | x :: l, n, k => if x = n then (k : Int) else findF l n (k + 1)
def findP (L : List Int) (n : Int) : Int := findF L n 0
theorem findF_step (L : List Int) (n : Int) (k : Nat) (h : k < L.length) : findF (L.drop k) n k = if L[k] = n then (k : Int) else findF (L.drop (k + 1)) n (k + 1) := by
  rw [List.drop_eq_getElem_cons h]; rfl
set_option maxRecDepth 100000 in
set_option maxHeartbeats 4000000 in
theorem find_any (g h N : Nat) (L : List Int) (n : Int) (w : World) (H : IsR w g h N L) :
    Calls Try.prog 18 #[ptrV g, .int .i64 n] w fun e w' => e = .returned (.int .i64 (findP L n)) ∧ Below w.heap.size w w' := by
  have HL := H.lt
  have cl := len_any g h N L w H
  obtain ⟨f, c, H, HO⟩ := H
  have HC := Lib.hid H
  have HO := Lib.hid HO
  have HF := Lib.hid H.hf
  clear H
  go_enter Try.func18, Try.ntmps18
  go_wp2_with fail
  refine cl.mono ?_; rintro e w1 ⟨rfl, hb1⟩
  clear cl
  go_wp2
  go_loopw [8] (fun i wr => ∃ k : Nat, i = .int .i64 k ∧ k ≤ L.length ∧ findF (L.drop k) n k = findP L n ∧ Below w.heap.size w wr) (fun i _ => L.length - (intOf i).toNat)
  case atStart => exact ⟨0, rfl, by omega, rfl, by (repeat (first | (with_reducible exact Below.refl _ _) | ((with_reducible refine below_alloc ?_ ?_ _); · (first | omega | (simp; done) | (simp; omega))) | ((with_reducible refine below_setCell ?_ ?_ _); · (first | omega | (simp; done) | (simp; omega))) | (with_reducible refine Below.drew ?_) | (with_reducible refine below_drewN ?_ _) | ((with_reducible refine below_call (by assumption) ?_ ?_); · (first | omega | (simp; done) | (simp; omega)))))⟩
  case round =>
    obtain ⟨k, rfl, hk, hr, hB⟩ := hrel
    by_cases hlt : k < L.length
    · have hlt' : (k : Int) < L.length := by omega
      have HR := HC.out.call hB
      have c0 := HR.c0
      have hm := cellN_lt HF.out (show k ≤ N by omega)
      have hx := HO.out k hlt
      rw [findF_step L n k hlt] at hr
      obtain ⟨x, hx2⟩ : ∃ x, L[k] = x := ⟨_, rfl⟩
      rw [hx2] at hr hx
      have cc := fun W (hb : Below wr.heap.size wr W) => cell_any g h N f L.length c k W (HR.call hb) (by omega)
      have cx := HR.cs _ hm
      rw [← hx] at cx
      obtain ⟨m, hm2⟩ : ∃ m, cellN f N k = m := ⟨_, rfl⟩
      rw [hm2] at cc cx hm
      have gl := HR.ltg
      have hl := HR.lth
      clear hx hx2 hm2 HR
      have hr := Lib.hid hr
      go_wp2
      go_region_with (go_at_call 31; refine (cc _ (by (repeat (first | (with_reducible exact Below.refl _ _) | ((with_reducible refine below_alloc ?_ ?_ _); · (first | omega | (simp; done) | (simp; omega))) | ((with_reducible refine below_setCell ?_ ?_ _); · (first | omega | (simp; done) | (simp; omega))) | (with_reducible refine Below.drew ?_) | (with_reducible refine below_drewN ?_ _) | ((with_reducible refine below_call (by assumption) ?_ ?_); · (first | omega | (simp; done) | (simp; omega))))))).mono ?_; rintro e w2 ⟨rfl, hb2⟩; have hbr := (show Below wr.heap.size wr w2 by (repeat (first | (with_reducible exact Below.refl _ _) | ((with_reducible refine below_alloc ?_ ?_ _); · (first | omega | (simp; done) | (simp; omega))) | ((with_reducible refine below_setCell ?_ ?_ _); · (first | omega | (simp; done) | (simp; omega))) | (with_reducible refine Below.drew ?_) | (with_reducible refine below_drewN ?_ _) | ((with_reducible refine below_call (by assumption) ?_ ?_); · (first | omega | (simp; done) | (simp; omega)))))); have d0 := (hbr.cell (p := ⟨g, 0, none⟩) gl).trans c0; have dx := (hbr.cell (p := ⟨h, m, none⟩) hl).trans cx)
      all_goals
        by_cases he : x = n
        · have hr := Lib.hid (show (k : Int) = findP L n by have := hr.out; rw [if_pos he] at this; exact this)
          have he' : (x == n) = true := by simpa using he
          go_wp2
          go_ret
          exact ⟨ret_int hr.out, hB.trans (hbr.mono hB.size)⟩
        · have hr := Lib.hid (show findF (L.drop (k + 1)) n (k + 1) = findP L n by have := hr.out; rw [if_neg he] at this; exact this)
          have he' : (x == n) = false := by simpa using he
          go_wp2
          go_roundw
          case rel => exact ⟨k + 1, by go_num, by omega, hr.out, hB.trans (hbr.mono hB.size)⟩
          case measure => simp [intOf]; omega
    · obtain rfl : k = L.length := by omega
      rw [List.drop_length] at hr
      have hr := Lib.hid hr
      go_wp2
      go_ret
      exact ⟨ret_int hr.out, hB⟩
theorem find_nil (n : Int) (w : World) :
    Calls Try.prog 18 #[.pointer none, .int .i64 n] w fun e w' => e = .returned (.int .i64 (-1)) ∧ Below w.heap.size w w' := by
  go_enter Try.func18, Try.ntmps18
  go_wp2_with fail
  refine (len_nil _).mono ?_; rintro e w1 ⟨rfl, hb1⟩
  go_wp2
  go_loopw [8] (fun i wr => i = .int .i64 0 ∧ Below w.heap.size w wr) (fun i _ => 0)
  case atStart => exact ⟨rfl, by (repeat (first | (with_reducible exact Below.refl _ _) | ((with_reducible refine below_alloc ?_ ?_ _); · (first | omega | (simp; done) | (simp; omega))) | ((with_reducible refine below_setCell ?_ ?_ _); · (first | omega | (simp; done) | (simp; omega))) | (with_reducible refine Below.drew ?_) | (with_reducible refine below_drewN ?_ _) | ((with_reducible refine below_call (by assumption) ?_ ?_); · (first | omega | (simp; done) | (simp; omega)))))⟩
  case round =>
    obtain ⟨rfl, hB⟩ := hrel
    go_wp2
    go_ret
    exact ⟨rfl, hB⟩

set_option maxRecDepth 100000 in
set_option maxHeartbeats 2000000 in
theorem all_any (g h N : Nat) (L : List Int) (w : World) (H : IsR w g h N L) :
    Calls Try.prog 15 #[ptrV g] w fun e w' => ∃ v, e = .returned v ∧ OwnI w' w.heap.size v L ∧ Below w.heap.size w w' := by
  obtain ⟨i0, hi, hj0, hj1, hj2⟩ := info_parts info_int
  have HL := H.lt
  have cl := len_any g h N L w H
  obtain ⟨f, c, H, HO⟩ := H
  have HC := Lib.hid H
  have HO := Lib.hid HO
  have HF := Lib.hid H.hf
  clear H
  go_enter Try.func15, Try.ntmps15
  go_wp2_with fail
  refine cl.mono ?_; rintro e w1 ⟨rfl, hb1⟩
  clear cl
  go_wp2
  go_loopw [3, 7] (fun v i wr => ∃ k : Nat, i = .int .i64 k ∧ k ≤ L.length ∧ OwnI wr w.heap.size v (L.take k) ∧ Below w.heap.size w wr) (fun _ i _ => L.length - (intOf i).toNat)
  case atStart => exact ⟨0, rfl, by omega, OwnI.nil _ _, by (repeat (first | (with_reducible exact Below.refl _ _) | ((with_reducible refine below_alloc ?_ ?_ _); · (first | omega | (simp; done) | (simp; omega))) | ((with_reducible refine below_setCell ?_ ?_ _); · (first | omega | (simp; done) | (simp; omega))) | (with_reducible refine Below.drew ?_) | (with_reducible refine below_drewN ?_ _) | ((with_reducible refine below_call (by assumption) ?_ ?_); · (first | omega | (simp; done) | (simp; omega)))))⟩
  case round =>
    obtain ⟨k, rfl, hk, hown, hB⟩ := hrel
    by_cases hlt : k < L.length
    · have hlt' : (k : Int) < L.length := by omega
      have HR := HC.out.call hB
      have c0 := HR.c0
      have hm := cellN_lt HF.out (show k ≤ N by omega)
      have hx := HO.out k hlt
      obtain ⟨x, hx2⟩ : ∃ x, L[k] = x := ⟨_, rfl⟩
      have htk := Lib.hid (show L.take (k + 1) = L.take k ++ [x] by rw [← hx2, List.take_succ_eq_append_getElem hlt])
      rw [hx2] at hx
      have cc := fun W (hb : Below wr.heap.size wr W) => cell_any g h N f L.length c k W (HR.call hb) (by omega)
      have cx := HR.cs _ hm
      rw [← hx] at cx
      obtain ⟨m, hm2⟩ : ∃ m, cellN f N k = m := ⟨_, rfl⟩
      rw [hm2] at cc cx hm
      have gl := HR.ltg
      have hl := HR.lth
      obtain ⟨ao, cp, hve⟩ := rowI_shape hown
      have hlk : (L.take k).length = k := by rw [List.length_take]; omega
      rw [hlk] at hve
      subst hve
      have HW := Lib.hid hown
      have hzr := hB.size
      clear hx hx2 hm2 HR hown hlk
      go_wp2
      go_region_law (first | (refine step_append_own rfl (.tmp 10) (.tmp 20) 28 rfl w.heap.size 3 i0 (.int .i64 0) 1 8 Try.underlying28 hi hj0 hj1 hj2 rfl (by decide) (.slice ao k cp) k ((L.take k).map (Value.int .i64)) (by simp [Act.eval, Act.put]) (HW2.out.alloc _) ⟨w2.heap.size, 0, none⟩ 1 1 [.int .i64 x] (by simp [Act.eval, Act.put]) rfl (World.news_of_block (heap_alloc_new w2 _)) (by simp [Value.oneCell']) (by unfold maxLen; omega) (by omega) (by simp; omega) ?_; intro v' w4 hown' hgr) | (go_simp; refine (cc _ (by (repeat (first | (with_reducible exact Below.refl _ _) | ((with_reducible refine below_alloc ?_ ?_ _); · (first | omega | (simp; done) | (simp; omega))) | ((with_reducible refine below_setCell ?_ ?_ _); · (first | omega | (simp; done) | (simp; omega))) | (with_reducible refine Below.drew ?_) | (with_reducible refine below_drewN ?_ _) | ((with_reducible refine below_call (by assumption) ?_ ?_); · (first | omega | (simp; done) | (simp; omega))))))).mono ?_; rintro e w2 ⟨rfl, hb2⟩; have hbr := (show Below wr.heap.size wr w2 by (repeat (first | (with_reducible exact Below.refl _ _) | ((with_reducible refine below_alloc ?_ ?_ _); · (first | omega | (simp; done) | (simp; omega))) | ((with_reducible refine below_setCell ?_ ?_ _); · (first | omega | (simp; done) | (simp; omega))) | (with_reducible refine Below.drew ?_) | (with_reducible refine below_drewN ?_ _) | ((with_reducible refine below_call (by assumption) ?_ ?_); · (first | omega | (simp; done) | (simp; omega)))))); have d0 := (hbr.cell (p := ⟨g, 0, none⟩) gl).trans c0; have dx := (hbr.cell (p := ⟨h, m, none⟩) hl).trans cx; have HW2 := Lib.hid (own_take hk (HW.out.call hbr)); have hzz := hbr.size))
      all_goals
        go_wp2
        go_roundw
        case rel =>
          have hb5 : Below w.heap.size w2 w4 := ((Below.refl _ _).alloc (by omega) _).grown hgr (by simp; omega) (fun q hq => (HW2.out.lt q hq).1)
          refine ⟨k + 1, by go_num, by omega, ?_, (hB.trans (hbr.mono hB.size)).trans hb5⟩
          show World.ownsRow _ _ _ _ _ _ _
          rw [htk.out, List.length_append, List.map_append, List.length_take, Nat.min_eq_left hk]
          exact hown'
        case measure => simp [intOf]; omega
    · obtain rfl : k = L.length := by omega
      rw [List.take_length] at hown
      have HW := Lib.hid hown
      obtain ⟨ao, cp, hve⟩ := rowI_shape hown
      subst hve
      clear hown
      go_wp2
      go_ret
      exact ⟨_, rfl, HW.out, hB⟩
theorem all_nil (w : World) :
    Calls Try.prog 15 #[.pointer none] w fun e w' => e = .returned (.slice none 0 0) ∧ Below w.heap.size w w' := by
  go_enter Try.func15, Try.ntmps15
  go_wp2_with fail
  refine (len_nil _).mono ?_; rintro e w1 ⟨rfl, hb1⟩
  go_wp2
  go_loopw [3, 7] (fun v i wr => v = .slice none 0 0 ∧ i = .int .i64 0 ∧ Below w.heap.size w wr) (fun _ i _ => 0)
  case atStart => exact ⟨rfl, rfl, by (repeat (first | (with_reducible exact Below.refl _ _) | ((with_reducible refine below_alloc ?_ ?_ _); · (first | omega | (simp; done) | (simp; omega))) | ((with_reducible refine below_setCell ?_ ?_ _); · (first | omega | (simp; done) | (simp; omega))) | (with_reducible refine Below.drew ?_) | (with_reducible refine below_drewN ?_ _) | ((with_reducible refine below_call (by assumption) ?_ ?_); · (first | omega | (simp; done) | (simp; omega)))))⟩
  case round =>
    obtain ⟨rfl, rfl, hB⟩ := hrel
    go_wp2
    go_ret
    exact ⟨rfl, hB⟩
end Go.Proofs.Ytphgilgmoeliaaa
