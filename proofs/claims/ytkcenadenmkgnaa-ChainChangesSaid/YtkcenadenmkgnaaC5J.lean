/- Contracts of layer 4, the program's: slices.Repeat of both; New. -/
import Derived.Test.YtkcenadenmkgnaaC5F
import Derived.Test.YtkcenadenmkgnaaShelf
import Derived.Laws.CopyOwn
import Derived.Deep.RegionLaw
namespace Go.Proofs.Ytkcenadenmkgnaa
open Go.RowKit
set_option linter.unusedVariables false
set_option linter.unusedSimpArgs false

/-- copy of elements of z cells each, into a row that is known whole -/
theorem run_copy_row_k {P : Program} (w : World) (dT sT ty elem : TypeId) (g o dLen dCap : Nat) (a : Addr) (sLen sCap : Nat) (cur : Array Value) (t : TypeId) (cs : List Value) (z n : Nat)
    (hu : P.underlying dT = some (.slice elem)) (hs : (P.info? elem).map (·.size) = some z)
    (hg : w.heap[g]? = some (.cells cur t (0, 0))) (hn : Nat.min sLen dLen = n) (hcs : cs.length = n * z)
    (hsrc : ∀ j v, cs[j]? = some v → w.cell? (a.add j) = some v) (hfit : o + cs.length ≤ cur.size) (h1 : ∀ v ∈ cs, v.oneCell' = true) :
    (Builtin.copy_ #[dT, sT] ty #[.slice (some ⟨g, o, none⟩) dLen dCap, .slice (some a) sLen sCap]).run P w =
      .ok (goInt n) (w.setRow g (cur.toList.take o ++ cs ++ cur.toList.drop (o + cs.length)).toArray) := by
  have hl := run_loadCells_list (P := P) w a cs hsrc
  have hst := run_storeCells_at P g o t cs 0 cur w hg (by simpa using hfit) h1
  rw [hcs] at hl
  cases hq : P.info? elem with
  | none => simp [hq] at hs
  | some i =>
    have hi : i.size = z := by simpa [hq] using hs
    simp [Builtin.copy_, run_underlying hu, Builtin.lenOf, Builtin.firstCells, sizeOf, typeInfo, hq, hi, hn, hl, hst]
theorem wpList_copy_k {P : Program} {w : World} {ops : Array Oper} {rest : List Oper} {o : Oper} {a : Act} {Q : Exit → Act → World → Prop} (hgd : o.guard = none) (d s : Operand) (dT sT : TypeId)
    (ho : o.op = .call { callee := .builtin .copy, args := #[d, s], argTypes := #[dT, sT] }) (elem : TypeId) (hu : P.underlying dT = some (.slice elem)) (z : Nat) (hsz : (P.info? elem).map (·.size) = some z)
    (g off dLen dCap : Nat) (ad : Addr) (sLen sCap : Nat) (hd : a.eval d = .slice (some ⟨g, off, none⟩) dLen dCap) (hs : a.eval s = .slice (some ad) sLen sCap)
    (cur : List Value) (t : TypeId) (hg : w.heap[g]? = some (.cells cur.toArray t (0, 0))) (cs : List Value) (n : Nat) (hn : Nat.min sLen dLen = n) (hcs : cs.length = n * z)
    (hsrc : ∀ j v, cs[j]? = some v → w.cell? (ad.add j) = some v) (hfit : off + cs.length ≤ cur.length) (h1 : ∀ v ∈ cs, v.oneCell' = true) (B : Nat) (w0 : World) (hb : Below B w0 w) (hBg : B ≤ g)
    (h : ∀ w', Hid (w'.heap[g]? = some (.cells (splice cur off cs).toArray t (0, 0))) → Below B w0 w' → wpList P ops Q rest (a.put o.dst (goInt n)) w') : wpList P ops Q (o :: rest) a w := by
  refine wpList_plain hgd fun K hK => ?_
  have hrun := run_copy_row_k (P := P) w dT sT o.type elem g off dLen dCap ad sLen sCap cur.toArray t cs z n hu hsz hg hn hcs hsrc (by simpa using hfit) h1
  unfold Oper.wp
  simp [execOp, ho, resolve, invoke, builtin, hd, hs, hrun, Result.andThen]
  exact hK _ _ (h _ (show _ = _ by simpa [splice] using setRow_heap w g _ _ t _ hg) (below_setRow hb hBg _))
theorem stopCopy {P : Program} {w : World} {ops : Array Oper} {rest : List Oper} {o : Oper} {a : Act} {Q : Exit → Act → World → Prop} {d s : Operand} {dT sT : TypeId}
    (ho : o.op = .call { callee := .builtin .copy, args := #[d, s], argTypes := #[dT, sT] }) (h : wpList P ops Q (o :: rest) a w ∧ True) : wpList P ops Q (o :: rest) a w := h.1
theorem step_copy_k {P : Program} {ops : Array Oper} {o : Oper} {a : Act} {w : World} {K : Act → World → Prop} {Q : Exit → Act → World → Prop} {E : Prop} (hgd : o.guard = none) (d s : Operand) (dT sT : TypeId)
    (ho : o.op = .call { callee := .builtin .copy, args := #[d, s], argTypes := #[dT, sT] }) (elem : TypeId) (hu : P.underlying dT = some (.slice elem)) (z : Nat) (hsz : (P.info? elem).map (·.size) = some z)
    (g off dLen dCap : Nat) (ad : Addr) (sLen sCap : Nat) (hd : a.eval d = .slice (some ⟨g, off, none⟩) dLen dCap) (hs : a.eval s = .slice (some ad) sLen sCap)
    (cur : List Value) (t : TypeId) (hg : w.heap[g]? = some (.cells cur.toArray t (0, 0))) (cs : List Value) (n : Nat) (hn : Nat.min sLen dLen = n) (hcs : cs.length = n * z)
    (hsrc : ∀ j v, cs[j]? = some v → w.cell? (ad.add j) = some v) (hfit : off + cs.length ≤ cur.length) (h1 : ∀ v ∈ cs, v.oneCell' = true) (B : Nat) (w0 : World) (hb : Below B w0 w) (hBg : B ≤ g)
    (h : ∀ w', Hid (w'.heap[g]? = some (.cells (splice cur off cs).toArray t (0, 0))) → Below B w0 w' → K (a.put o.dst (goInt n)) w') :
    if Region.wanted o (yielded ops a.tmps) = true then Oper.wp P o a w K Q else E := by
  have hw : Region.wanted o (yielded ops a.tmps) = true := by simp [Region.wanted, hgd]
  rw [if_pos hw]
  have hrun := run_copy_row_k (P := P) w dT sT o.type elem g off dLen dCap ad sLen sCap cur.toArray t cs z n hu hsz hg hn hcs hsrc (by simpa using hfit) h1
  unfold Oper.wp
  simp [execOp, ho, resolve, invoke, builtin, hd, hs, hrun, Result.andThen]
  exact h _ (show _ = _ by simpa [splice] using setRow_heap w g _ _ t _ hg) (below_setRow hb hBg _)

theorem rep_add {α : Type} (n m : Nat) (a : α) : List.replicate (n + m) a = List.replicate n a ++ List.replicate m a := by rw [List.replicate_append_replicate]
/-- m times the cells c, and zeros behind them, N in all -/
def repC (c zc : List Value) (N m : Nat) : List Value := (List.replicate m c).flatten ++ (List.replicate (N - m) zc).flatten
theorem len_flat (c : List Value) (k : Nat) : (List.replicate k c).flatten.length = k * c.length := by simp
theorem repC_len {c zc : List Value} (h : zc.length = c.length) {N m : Nat} (hm : m ≤ N) : (repC c zc N m).length = N * c.length := by
  unfold repC
  rw [List.length_append, len_flat, len_flat, h, ← Nat.add_mul]
  congr 1; omega
theorem repC_full (c zc : List Value) (N : Nat) : repC c zc N N = (List.replicate N c).flatten := by simp [repC]
theorem repC_splice {c zc : List Value} (h : zc.length = c.length) {N m k : Nat} (hk : m + k ≤ N) : splice (repC c zc N m) (m * c.length) (List.replicate k c).flatten = repC c zc N (m + k) := by
  have e1 : N - m = k + (N - (m + k)) := by omega
  unfold splice repC
  rw [len_flat, List.take_left' (len_flat c m), ← Nat.add_mul]
  rw [e1, rep_add k, List.flatten_append, ← List.append_assoc (List.replicate m c).flatten (List.replicate k zc).flatten]
  rw [List.drop_left' (by rw [List.length_append, len_flat, len_flat, h, ← Nat.add_mul])]
  rw [rep_add, List.flatten_append, List.append_assoc]
theorem repC_pre {c zc : List Value} {N m k : Nat} (hk : k ≤ m) {j : Nat} {v : Value} (hv : (List.replicate k c).flatten[j]? = some v) : (repC c zc N m)[j]? = some v := by
  have e : m = k + (m - k) := by omega
  unfold repC
  rw [e, rep_add, List.flatten_append, List.append_assoc, List.getElem?_append_left]
  · exact hv
  · exact (List.getElem?_eq_some_iff.1 hv).1
theorem flat_mem {c : List Value} {k : Nat} {v : Value} (h : v ∈ (List.replicate k c).flatten) : v ∈ c := by
  rw [List.mem_flatten] at h
  obtain ⟨l, hl, hv⟩ := h
  rw [List.mem_replicate] at hl
  rw [← hl.2]; exact hv
theorem made_flat (zc : List Value) (N : Nat) (k : Nat) (hk : zc.length = k) (hz : 0 < k) : ((Array.range (N * k)).map fun i => zc.toArray[i % zc.toArray.size]!).toList = (List.replicate N zc).flatten := by
  refine List.ext_getElem (by simp [hk]) fun j h1 h2 => ?_
  have hj : j < N * k := by simpa using h1
  have hjm : j % k < k := Nat.mod_lt _ hz
  simp only [Array.toList_map, Array.toList_range, List.getElem_map, List.getElem_range, List.size_toArray, hk]
  have e : ∀ (M : Nat) (i : Nat) (hi : i < (List.replicate M zc).flatten.length), (List.replicate M zc).flatten[i] = zc[i % k]'(by rw [hk]; exact Nat.mod_lt _ hz) := by
    intro M
    induction M with
    | zero => intro i hi; simp at hi
    | succ M ih =>
      intro i hi
      simp only [List.replicate_succ, List.flatten_cons]
      by_cases hlt : i < zc.length
      · rw [List.getElem_append_left hlt]
        congr 1
        rw [Nat.mod_eq_of_lt (by omega)]
      · rw [List.getElem_append_right (by omega), ih]
        congr 1
        rw [hk]
        conv => rhs; rw [show i = (i - k) + k by omega, Nat.add_mod_right]
  rw [e N j h2, getElem!_pos _ _ (by simp [hk]; exact hjm)]
  simp

theorem mulone (N : Nat) (hN : N ≤ 1048576) (W : World) : Calls Try.prog 62 #[.int .u64 1, .int .u64 N] W fun e w' => e = .returned (.tuple #[.int .u64 0, .int .u64 N]) ∧ w' = W := by
  refine (Try.bits_Mul 1 N (by decide) (by omega) W).mono ?_
  rintro e w' ⟨rfl, rfl⟩
  refine ⟨?_, rfl⟩
  have e1 : ((1 * N / 18446744073709551616 : Nat) : Int) = 0 := by omega
  have e2 : ((1 * N % 18446744073709551616 : Nat) : Int) = N := by omega
  rw [e1, e2]

set_option maxRecDepth 100000 in
set_option maxHeartbeats 4000000 in
theorem repeatI_any (N : Nat) (b : Nat) (w : World) (h1 : 1 ≤ N) (h2 : N ≤ 64) (hsrc : ∀ j v, ([Value.int .i64 (-1)] : List Value)[j]? = some v → w.cell? ⟨b, j, none⟩ = some v) :
    Calls Try.prog 46 #[.slice (some ⟨b, 0, none⟩) 1 1, .int .i64 N] w fun e w' => e = .returned (.slice (some ⟨w.heap.size, 0, none⟩) N N) ∧ w'.ownsRow w.heap.size 3 1 (.slice (some ⟨w.heap.size, 0, none⟩) N N) N (List.replicate N [Value.int .i64 (-1)]).flatten ∧ Below w.heap.size w w' := by
  obtain ⟨i0, hi, hj0, hj1, hj2⟩ := info_parts info_int
  obtain ⟨c, hc⟩ : ∃ c : List Value, c = [Value.int .i64 (-1)] := ⟨_, rfl⟩
  obtain ⟨zc, hzc⟩ : ∃ c : List Value, c = [Value.int .i64 0] := ⟨_, rfl⟩
  have hcl : c.length = 1 := by rw [hc]; rfl
  have hzl : zc.length = c.length := by rw [hc, hzc]; rfl
  have hc1 : ∀ v ∈ c, v.oneCell' = true := by rw [hc]; decide
  rw [← hc] at hsrc ⊢
  have hisz : (Try.prog.info? 3).map (·.size) = some 1 := by rw [hi]; simp [hj1]
  obtain ⟨R, hR⟩ : ∃ R, R = madeCells (Value.int .i64 0).cells (N * i0.size) := ⟨_, rfl⟩
  have hRl : R.toList = repC c zc N 0 := by
    rw [hR, hj1]
    have e := made_flat zc N 1 (by rw [hzl, hcl]) (by decide)
    simp only [repC, List.replicate_zero, List.flatten_nil, List.nil_append, Nat.sub_zero]
    rw [← e]
    rw [hzc]; simp [madeCells, Value.cells]
  have hmk : ∀ W : World, (Instr.makeSlice 23 (.int .i64 (N : Int)) (.int .i64 (N : Int))).run Try.prog W = .ok (.slice (some ⟨W.heap.size, 0, none⟩) N N) (W.alloc (.cells R 3)) := fun W => by
    have h := run_make (P := Try.prog) W 23 3 i0 (Value.int .i64 0) Try.underlying23 hi hj0 .i64 .i64 (N : Int) (N : Int) (by omega) (by omega) (by rw [hj2]; omega) (by omega)
    simp only [Int.toNat_natCast] at h
    rw [← hR] at h
    exact h
  have cm := fun W => mulone N (by omega) W
  have h1' : (1 : Int) ≤ N := by omega
  have h2' : (N : Int) ≤ 64 := by omega
  have HS := Lib.hid hsrc
  have HC := Lib.hid (And.intro hcl (And.intro hzl hc1))
  have HRl := Lib.hid hRl
  clear hsrc hc hzc hcl hzl hc1 hR hRl
  go_enter Try.func46, Try.ntmps46
  go_wp2_with fail
  refine (cm _).mono ?_; rintro e w1 ⟨rfl, hw1⟩
  replace hw1 := hw1.symm
  subst hw1
  go_wp2_with (refine stopCopy rfl ?_)
  refine And.intro ?_ trivial
  refine wpList_copy_k rfl _ _ 23 23 rfl 3 Try.underlying23 1 hisz w.heap.size 0 N N ⟨b, 0, none⟩ 1 1 rfl rfl (repC c zc N 0) 3 (by rw [← HRl.out, Array.toArray_toList]; exact heap_alloc_new w _) (List.replicate 1 c).flatten 1 (Nat.min_eq_left h1) (by rw [len_flat, HC.out.1]) (fun j v hj => by
      rw [Addr.add_lit, Nat.zero_add]
      have h := HS.out j v (by simpa using hj)
      exact (((Below.refl w.heap.size w).alloc (Nat.le_refl _) _).cell (p := ⟨b, j, none⟩) (World.block_lt_of_cell? _ _ h)).trans h) (by rw [len_flat, repC_len HC.out.2.1 (Nat.zero_le _), Nat.zero_add]; exact Nat.mul_le_mul_right _ h1) (fun v hv => HC.out.2.2 v (flat_mem hv)) w.heap.size w ((Below.refl w.heap.size w).alloc (Nat.le_refl _) _) (Nat.le_refl _) ?_
  intro w2 hg2 hb2
  have HG2 : Hid (w2.heap[w.heap.size]? = some (.cells (repC c zc N 1).toArray 3 (0, 0))) := Lib.hid (by
    have h := hg2.out
    have e := repC_splice (N := N) (m := 0) (k := 1) HC.out.2.1 (by omega)
    rw [Nat.zero_mul, Nat.zero_add] at e
    rw [e] at h
    exact h)
  clear hg2
  go_wp2_with fail
  go_loopw [8] (fun i wr => ∃ m : Nat, i = .int .i64 m ∧ 1 ≤ m ∧ m ≤ N ∧ wr.heap[w.heap.size]? = some (.cells (repC c zc N m).toArray 3 (0, 0)) ∧ Below w.heap.size w wr) (fun i _ => N - (intOf i).toNat)
  case atStart => exact ⟨1, rfl, by omega, by omega, HG2.out, hb2⟩
  case round =>
    obtain ⟨m, rfl, hm1, hm, hg, hB⟩ := hrel
    have HG := Lib.hid hg
    have hm1' : (1 : Int) ≤ m := by omega
    have hm' : (m : Int) ≤ N := by omega
    clear hg
    by_cases hlt : m < N
    · have hlt' : (m : Int) < N := by omega
      obtain ⟨k, hk⟩ : ∃ k, Nat.min m (N - m) = k := ⟨_, rfl⟩
      have hkm : k ≤ m := by rw [← hk]; exact Nat.min_le_left _ _
      have hkn : m + k ≤ N := by have h : k ≤ N - m := by rw [← hk]; exact Nat.min_le_right _ _
                                 omega
      have hk1 : 1 ≤ k := by rw [← hk]; exact (Nat.le_min).2 ⟨by omega, by omega⟩
      have hsum : IntKind.i64.wrap ((m : Int) + k) = ((m + k : Nat) : Int) := by rw [IntWalk.i64_in _ (by omega)]; omega
      have hsum2 : wrap64 ((m : Int) + k) = ((m + k : Nat) : Int) := by rw [IntWalk.wrap64_in _ ⟨by omega, by omega⟩]; omega
      go_wp2
      have hNm : ¬ (N = m) := by omega
      have hmN : ¬ (m = N) := by omega
      go_region_law (refine step_copy_k rfl (.tmp 41) (.tmp 44) 23 23 rfl 3 Try.underlying23 1 hisz w.heap.size m (N - m) (N - m) ⟨w.heap.size, 0, none⟩ m N (by simp [Act.eval, Act.put]) (by simp [Act.eval, Act.put]) (repC c zc N m) 3 HG.out (List.replicate k c).flatten k hk (by rw [len_flat, HC.out.1]) (fun j v hj => by
          rw [Addr.add_lit, Nat.zero_add]
          have h := repC_pre (zc := zc) (N := N) hkm hj
          have hgg : wr.drew.heap[w.heap.size]? = _ := HG.out
          unfold World.cell?
          simp only [hgg]
          simpa using h) (by rw [len_flat, repC_len HC.out.2.1 hm, HC.out.1]; omega) (fun v hv => HC.out.2.2 v (flat_mem hv)) w.heap.size w (by (repeat (first | (with_reducible exact Below.refl _ _) | ((with_reducible refine below_alloc ?_ ?_ _); · (first | omega | (simp; done) | (simp; omega))) | ((with_reducible refine below_setCell ?_ ?_ _); · (first | omega | (simp; done) | (simp; omega))) | (with_reducible refine Below.drew ?_) | (with_reducible refine below_drewN ?_ _) | ((with_reducible refine below_call (by assumption) ?_ ?_); · (first | omega | (simp; done) | (simp; omega)))))) (Nat.le_refl _) ?_; intro w3 hg3 hb3)
      have HG3 : Hid (w3.heap[w.heap.size]? = some (.cells (repC c zc N (m + k)).toArray 3 (0, 0))) := Lib.hid (by
        have h := hg3.out
        have e := repC_splice (c := c) (zc := zc) (N := N) (m := m) (k := k) HC.out.2.1 hkn
        rw [HC.out.1, show m * 1 = m by omega] at e
        rw [e] at h
        exact h)
      clear hg3
      try simp only [Act.put, List.getElem_toArray, List.getElem_cons_succ, List.getElem_cons_zero, List.setIfInBounds_toArray, List.set_cons_zero, List.set_cons_succ]
      go_wp2
      go_roundw
      case rel => exact ⟨m + k, by go_num, by omega, by omega, HG3.out, hb3⟩
      case measure => simp [intOf]; omega
    · obtain rfl : m = N := by omega
      go_wp2
      go_ret
      refine ⟨rfl, ⟨by rw [len_flat, HC.out.1], .inr ⟨w.heap.size, m, (repC c zc m m).toArray, rfl, Nat.le_refl _, HG.out, Nat.le_refl _, by unfold maxLen; omega, by rw [List.size_toArray, repC_len HC.out.2.1 (Nat.le_refl _), HC.out.1], ?_⟩⟩, hB⟩
      rw [repC_full, List.toList_toArray, List.take_of_length_le (by rw [len_flat, HC.out.1]; exact Nat.le_refl _)]

set_option maxRecDepth 100000 in
set_option maxHeartbeats 4000000 in
theorem repeatN_any (N : Nat) (b : Nat) (w : World) (h1 : 1 ≤ N) (h2 : N ≤ 64) (hsrc : ∀ j v, ([Value.int .i64 (-1), Value.int .i64 (-1), Value.int .i64 (-1)] : List Value)[j]? = some v → w.cell? ⟨b, j, none⟩ = some v) :
    Calls Try.prog 44 #[.slice (some ⟨b, 0, none⟩) 1 1, .int .i64 N] w fun e w' => e = .returned (.slice (some ⟨w.heap.size, 0, none⟩) N N) ∧ w'.ownsRow w.heap.size 63 3 (.slice (some ⟨w.heap.size, 0, none⟩) N N) N (List.replicate N [Value.int .i64 (-1), Value.int .i64 (-1), Value.int .i64 (-1)]).flatten ∧ Below w.heap.size w w' := by
  obtain ⟨i0, hi, hj0, hj1, hj2⟩ := info_parts info_nod
  obtain ⟨c, hc⟩ : ∃ c : List Value, c = [Value.int .i64 (-1), Value.int .i64 (-1), Value.int .i64 (-1)] := ⟨_, rfl⟩
  obtain ⟨zc, hzc⟩ : ∃ c : List Value, c = [Value.int .i64 0, Value.int .i64 0, Value.int .i64 0] := ⟨_, rfl⟩
  have hcl : c.length = 3 := by rw [hc]; rfl
  have hzl : zc.length = c.length := by rw [hc, hzc]; rfl
  have hc1 : ∀ v ∈ c, v.oneCell' = true := by rw [hc]; decide
  rw [← hc] at hsrc ⊢
  have hisz : (Try.prog.info? 63).map (·.size) = some 3 := by rw [hi]; simp [hj1]
  obtain ⟨R, hR⟩ : ∃ R, R = madeCells (Value.agg #[.int .i64 0, .int .i64 0, .int .i64 0]).cells (N * i0.size) := ⟨_, rfl⟩
  have hRl : R.toList = repC c zc N 0 := by
    rw [hR, hj1]
    have e := made_flat zc N 3 (by rw [hzl, hcl]) (by decide)
    simp only [repC, List.replicate_zero, List.flatten_nil, List.nil_append, Nat.sub_zero]
    rw [← e]
    rw [hzc]; simp [madeCells, Value.cells]
  have hmk : ∀ W : World, (Instr.makeSlice 28 (.int .i64 (N : Int)) (.int .i64 (N : Int))).run Try.prog W = .ok (.slice (some ⟨W.heap.size, 0, none⟩) N N) (W.alloc (.cells R 63)) := fun W => by
    have h := run_make (P := Try.prog) W 28 63 i0 (Value.agg #[.int .i64 0, .int .i64 0, .int .i64 0]) Try.underlying28 hi hj0 .i64 .i64 (N : Int) (N : Int) (by omega) (by omega) (by rw [hj2]; omega) (by omega)
    simp only [Int.toNat_natCast] at h
    rw [← hR] at h
    exact h
  have cm := fun W => mulone N (by omega) W
  have h1' : (1 : Int) ≤ N := by omega
  have h2' : (N : Int) ≤ 64 := by omega
  have HS := Lib.hid hsrc
  have HC := Lib.hid (And.intro hcl (And.intro hzl hc1))
  have HRl := Lib.hid hRl
  clear hsrc hc hzc hcl hzl hc1 hR hRl
  go_enter Try.func44, Try.ntmps44
  go_wp2_with fail
  refine (cm _).mono ?_; rintro e w1 ⟨rfl, hw1⟩
  replace hw1 := hw1.symm
  subst hw1
  go_wp2_with (refine stopCopy rfl ?_)
  refine And.intro ?_ trivial
  refine wpList_copy_k rfl _ _ 28 28 rfl 63 Try.underlying28 3 hisz w.heap.size 0 N N ⟨b, 0, none⟩ 1 1 rfl rfl (repC c zc N 0) 63 (by rw [← HRl.out, Array.toArray_toList]; exact heap_alloc_new w _) (List.replicate 1 c).flatten 1 (Nat.min_eq_left h1) (by rw [len_flat, HC.out.1]) (fun j v hj => by
      rw [Addr.add_lit, Nat.zero_add]
      have h := HS.out j v (by simpa using hj)
      exact (((Below.refl w.heap.size w).alloc (Nat.le_refl _) _).cell (p := ⟨b, j, none⟩) (World.block_lt_of_cell? _ _ h)).trans h) (by rw [len_flat, repC_len HC.out.2.1 (Nat.zero_le _), Nat.zero_add]; exact Nat.mul_le_mul_right _ h1) (fun v hv => HC.out.2.2 v (flat_mem hv)) w.heap.size w ((Below.refl w.heap.size w).alloc (Nat.le_refl _) _) (Nat.le_refl _) ?_
  intro w2 hg2 hb2
  have HG2 : Hid (w2.heap[w.heap.size]? = some (.cells (repC c zc N 1).toArray 63 (0, 0))) := Lib.hid (by
    have h := hg2.out
    have e := repC_splice (N := N) (m := 0) (k := 1) HC.out.2.1 (by omega)
    rw [Nat.zero_mul, Nat.zero_add] at e
    rw [e] at h
    exact h)
  clear hg2
  go_wp2_with fail
  go_loopw [8] (fun i wr => ∃ m : Nat, i = .int .i64 m ∧ 1 ≤ m ∧ m ≤ N ∧ wr.heap[w.heap.size]? = some (.cells (repC c zc N m).toArray 63 (0, 0)) ∧ Below w.heap.size w wr) (fun i _ => N - (intOf i).toNat)
  case atStart => exact ⟨1, rfl, by omega, by omega, HG2.out, hb2⟩
  case round =>
    obtain ⟨m, rfl, hm1, hm, hg, hB⟩ := hrel
    have HG := Lib.hid hg
    have hm1' : (1 : Int) ≤ m := by omega
    have hm' : (m : Int) ≤ N := by omega
    clear hg
    by_cases hlt : m < N
    · have hlt' : (m : Int) < N := by omega
      obtain ⟨k, hk⟩ : ∃ k, Nat.min m (N - m) = k := ⟨_, rfl⟩
      have hkm : k ≤ m := by rw [← hk]; exact Nat.min_le_left _ _
      have hkn : m + k ≤ N := by have h : k ≤ N - m := by rw [← hk]; exact Nat.min_le_right _ _
                                 omega
      have hk1 : 1 ≤ k := by rw [← hk]; exact (Nat.le_min).2 ⟨by omega, by omega⟩
      have hsum : IntKind.i64.wrap ((m : Int) + k) = ((m + k : Nat) : Int) := by rw [IntWalk.i64_in _ (by omega)]; omega
      have hsum2 : wrap64 ((m : Int) + k) = ((m + k : Nat) : Int) := by rw [IntWalk.wrap64_in _ ⟨by omega, by omega⟩]; omega
      go_wp2
      have hNm : ¬ (N = m) := by omega
      have hmN : ¬ (m = N) := by omega
      go_region_law (refine step_copy_k rfl (.tmp 41) (.tmp 44) 28 28 rfl 63 Try.underlying28 3 hisz w.heap.size (m * 3) (N - m) (N - m) ⟨w.heap.size, 0, none⟩ m N (by simp [Act.eval, Act.put]) (by simp [Act.eval, Act.put]) (repC c zc N m) 63 HG.out (List.replicate k c).flatten k hk (by rw [len_flat, HC.out.1]) (fun j v hj => by
          rw [Addr.add_lit, Nat.zero_add]
          have h := repC_pre (zc := zc) (N := N) hkm hj
          have hgg : wr.drew.heap[w.heap.size]? = _ := HG.out
          unfold World.cell?
          simp only [hgg]
          simpa using h) (by rw [len_flat, repC_len HC.out.2.1 hm, HC.out.1]; omega) (fun v hv => HC.out.2.2 v (flat_mem hv)) w.heap.size w (by (repeat (first | (with_reducible exact Below.refl _ _) | ((with_reducible refine below_alloc ?_ ?_ _); · (first | omega | (simp; done) | (simp; omega))) | ((with_reducible refine below_setCell ?_ ?_ _); · (first | omega | (simp; done) | (simp; omega))) | (with_reducible refine Below.drew ?_) | (with_reducible refine below_drewN ?_ _) | ((with_reducible refine below_call (by assumption) ?_ ?_); · (first | omega | (simp; done) | (simp; omega)))))) (Nat.le_refl _) ?_; intro w3 hg3 hb3)
      have HG3 : Hid (w3.heap[w.heap.size]? = some (.cells (repC c zc N (m + k)).toArray 63 (0, 0))) := Lib.hid (by
        have h := hg3.out
        have e := repC_splice (c := c) (zc := zc) (N := N) (m := m) (k := k) HC.out.2.1 hkn
        rw [HC.out.1, show m * 3 = (m * 3) by omega] at e
        rw [e] at h
        exact h)
      clear hg3
      try simp only [Act.put, List.getElem_toArray, List.getElem_cons_succ, List.getElem_cons_zero, List.setIfInBounds_toArray, List.set_cons_zero, List.set_cons_succ]
      go_wp2
      go_roundw
      case rel => exact ⟨m + k, by go_num, by omega, by omega, HG3.out, hb3⟩
      case measure => simp [intOf]; omega
    · obtain rfl : m = N := by omega
      go_wp2
      go_ret
      refine ⟨rfl, ⟨by rw [len_flat, HC.out.1], .inr ⟨w.heap.size, m, (repC c zc m m).toArray, rfl, Nat.le_refl _, HG.out, Nat.le_refl _, by unfold maxLen; omega, by rw [List.size_toArray, repC_len HC.out.2.1 (Nat.le_refl _), HC.out.1], ?_⟩⟩, hB⟩
      rw [repC_full, List.toList_toArray, List.take_of_length_le (by rw [len_flat, HC.out.1]; exact Nat.le_refl _)]

end Go.Proofs.Ytkcenadenmkgnaa
