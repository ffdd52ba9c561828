/- My own small kit: a map of numbers by numbers in memory, as a plain list of pairs, each key once, in whatever order; what is looked up, laid, taken out, counted and ranged over. -/
import Derived.Test.YtcanaadcjipfjaaKit
import Derived.Maps.OwnSet
import Derived.Maps.RangeWalk
namespace Go.Proofs.Ytcanaadcjipfjaa
open Go.RowKit Go.Maps
set_option linter.unusedVariables false
set_option linter.unusedSimpArgs false

abbrev Kv := Int × Int
def kvD (e : Kv) : Lit × DataW Unit := (.int .i64 e.1, .lit (.int .i64 e.2))
def mapD (l : List Kv) : DataW Unit := .map (l.map kvD)
/-- what is found under a key -/
def getM (l : List Kv) (k : Int) : Option Int := (l.find? fun e => decide (e.1 = k)).map (·.2)
def delM (l : List Kv) (k : Int) : List Kv := l.filter fun e => decide (e.1 ≠ k)
def insM (x : Kv) : List Kv → List Kv
  | [] => [x]
  | y :: r => if x.1 < y.1 then x :: y :: r else y :: insM x r
abbrev Once (l : List Kv) : Prop := l.Pairwise (fun a c => a.1 ≠ c.1)
theorem key_same (a k : Int) : (Lit.int .i64 a).sameKey (.int .i64 k) = decide (a = k) := by simp [Lit.sameKey]
theorem insM_perm (x : Kv) : ∀ l : List Kv, (insM x l).Perm (x :: l)
  | [] => List.Perm.refl _
  | y :: r => by
    unfold insM
    split
    · exact List.Perm.refl _
    · exact ((insM_perm x r).cons y).trans (List.Perm.swap x y r)
theorem insM_kv (x : Kv) : ∀ l : List Kv, DataW.insert (kvD x) (l.map kvD) = (insM x l).map kvD
  | [] => rfl
  | y :: r => by
    have ih := insM_kv x r
    unfold insM
    rw [List.map_cons]
    show (if (kvD x).1.before (kvD y).1 then _ else _) = _
    have e : (kvD x).1.before (kvD y).1 = decide (x.1 < y.1) := rfl
    rw [e]
    by_cases h : x.1 < y.1
    · rw [decide_eq_true h, if_pos rfl, if_pos h]; rfl
    · rw [decide_eq_false h, if_neg (by decide), if_neg h, List.map_cons]
      rw [← ih]
theorem delM_kv (l : List Kv) (k : Int) : (l.map kvD).filter (fun p => !p.1.sameKey (.int .i64 k)) = (delM l k).map kvD := by
  unfold delM
  rw [List.filter_map]
  congr 1
  apply List.filter_congr
  intro e _
  show (!(Lit.int .i64 e.1).sameKey (.int .i64 k)) = _
  rw [key_same]
  by_cases h : e.1 = k <;> simp [h]
theorem mapD_put (l : List Kv) (k a : Int) : (mapD l).put (.int .i64 k) (.lit (.int .i64 a)) = mapD (insM (k, a) (delM l k)) := by
  show DataW.map (DataW.insert (kvD (k, a)) ((l.map kvD).filter _)) = _
  rw [delM_kv, insM_kv]
  rfl
theorem mapD_del (l : List Kv) (k : Int) : (mapD l).del (.int .i64 k) = mapD (delM l k) := by
  show DataW.map ((l.map kvD).filter _) = _
  rw [delM_kv]
  rfl
theorem findM_kv (l : List Kv) (k : Int) : (l.map kvD).find? (fun p => p.1.sameKey (.int .i64 k)) = (l.find? fun e => decide (e.1 = k)).map kvD := by
  rw [List.find?_map]
  congr 2
  funext e
  exact key_same e.1 k
theorem mapD_at (l : List Kv) (k : Int) (z : DataW Unit) : (mapD l).atKey (.int .i64 k) z = match getM l k with | some a => .lit (.int .i64 a) | none => z := by
  unfold mapD DataW.atKey getM
  simp only
  rw [findM_kv]
  cases l.find? fun e => decide (e.1 = k) <;> rfl
theorem mapD_has (l : List Kv) (k : Int) : Maps.has (mapD l) (.int .i64 k) = (getM l k).isSome := by
  show (l.map kvD).any (fun p => p.1.sameKey (.int .i64 k)) = _
  unfold getM
  rw [List.any_map, Option.isSome_map, List.isSome_find?]
  congr 1
  funext e
  exact key_same e.1 k
theorem mapD_size (l : List Kv) : Maps.size (mapD l) = l.length := by
  show (l.map kvD).length = _
  rw [List.length_map]
theorem getM_iff {l : List Kv} (h : Once l) {k a : Int} : getM l k = some a ↔ (k, a) ∈ l := by
  unfold getM
  constructor
  · intro hg
    cases hf : l.find? fun e => decide (e.1 = k) with
    | none => rw [hf] at hg; cases hg
    | some e =>
      rw [hf] at hg
      have h1 := List.find?_some hf
      have h2 := List.mem_of_find?_eq_some hf
      simp at h1 hg
      rw [← h1, ← hg]
      exact h2
  · intro hm
    cases hf : l.find? fun e => decide (e.1 = k) with
    | none => exact absurd (List.find?_eq_none.1 hf _ hm) (by simp)
    | some e =>
      have h1 := List.find?_some hf
      have h2 := List.mem_of_find?_eq_some hf
      simp at h1
      have he : e = (k, a) := by
        apply Classical.byContradiction
        intro hn
        obtain ⟨i, hi, e1⟩ := List.getElem_of_mem h2
        obtain ⟨j, hj, e2⟩ := List.getElem_of_mem hm
        have hp := List.pairwise_iff_getElem.1 h
        rcases Nat.lt_trichotomy i j with q | q | q
        · exact hp i j hi hj q (by rw [e1, e2]; exact h1)
        · subst q; exact hn (e1.symm.trans e2)
        · exact hp j i hj hi q (by rw [e1, e2]; exact h1.symm)
      rw [he]
      rfl
theorem getM_perm {l L : List Kv} (h : Once l) (hp : L.Perm l) (k : Int) : getM L k = getM l k := by
  have hL : Once L := hp.symm.pairwise h (fun q => Ne.symm q)
  cases hg : getM l k with
  | some a => exact (getM_iff hL).2 (hp.mem_iff.2 ((getM_iff h).1 hg))
  | none =>
    cases hg2 : getM L k with
    | none => rfl
    | some a => rw [(getM_iff h).2 (hp.mem_iff.1 ((getM_iff hL).1 hg2))] at hg; cases hg
theorem delM_perm {l L : List Kv} (hp : L.Perm l) (k : Int) : (delM L k).Perm (delM l k) := hp.filter _
theorem once_del {l : List Kv} (h : Once l) (k : Int) : Once (delM l k) := h.sublist List.filter_sublist
theorem delM_mem {l : List Kv} {k : Int} {e : Kv} : e ∈ delM l k ↔ e ∈ l ∧ e.1 ≠ k := by
  unfold delM
  rw [List.mem_filter]
  simp
theorem once_put {l : List Kv} (h : Once l) (k a : Int) : Once ((k, a) :: delM l k) :=
  List.pairwise_cons.2 ⟨fun e he => fun q => (delM_mem.1 he).2 q.symm, once_del h k⟩
/-- a map's type, its keys', its elements': numbers of 64 bits -/
structure LaysM (tm tk te : TypeId) : Prop where
  und : Try.prog.underlying tm = some (.map tk te)
  key : Try.prog.underlying tk = some (.int .i64)
  el : Try.prog.underlying te = some (.int .i64)
  zero : ∀ W : World, (zeroValue te).run Try.prog W = .ok (.int .i64 0) W
/-- block b is a map that holds these -/
def IsM (tk te : TypeId) (w : World) (b : Nat) (l : List Kv) : Prop := Once l ∧ ∃ L : List Kv, L.Perm l ∧ w.ownsMap Try.prog tk (plainElem Try.prog te) b l.length (mapD L)
section
variable {tm tk te : TypeId} {w : World} {b : Nat} {l : List Kv}
theorem owns_tight {n : Nat} {D : DataW Unit} (h : w.ownsMap Try.prog tk (plainElem Try.prog te) b n D) : w.ownsMap Try.prog tk (plainElem Try.prog te) b (Maps.size D) D := by
  obtain ⟨es, clock, hb, F, hs, rfl⟩ := h
  refine ⟨es, clock, hb, F, ?_, rfl⟩
  rw [Maps.size_eq, length_sorted, List.length_map, Array.length_toList]
  exact Nat.le_refl _
theorem IsM.lt (h : IsM tk te w b l) : b < w.heap.size := by
  obtain ⟨-, L, -, h⟩ := h
  exact h.lt
theorem IsM.keep {w' : World} (h : IsM tk te w b l) (hk : w'.heap[b]? = w.heap[b]?) : IsM tk te w' b l := by
  obtain ⟨h1, L, h2, es, clock, hb, r⟩ := h
  exact ⟨h1, L, h2, es, clock, hk.trans hb, r⟩
theorem IsM.call {w' : World} (h : IsM tk te w b l) (hb : Below w.heap.size w w') : IsM tk te w' b l := h.keep (hb.block b h.lt)
theorem IsM.perm {m : List Kv} (h : IsM tk te w b l) (hp : l.Perm m) : IsM tk te w b m := by
  obtain ⟨h1, L, h2, h3⟩ := h
  exact ⟨hp.pairwise h1 (fun q => Ne.symm q), L, h2.trans hp, by rw [← hp.length_eq]; exact h3⟩
theorem IsM.made (w : World) : IsM tk te (w.alloc (.map #[] 0)) w.heap.size [] := ⟨List.Pairwise.nil, [], List.Perm.refl _, World.ownsMap_made w Try.prog tk _⟩
theorem wf_i64 {n : Int} (h : -9223372036854775808 ≤ n ∧ n ≤ 9223372036854775807) : (Lit.int .i64 n).wf = true := by
  simp [Lit.wf, IntKind.min, IntKind.max, IntKind.bits, IntKind.signed]
  omega
theorem at_val (hl : Once l) {L : List Kv} (hp : L.Perm l) (k c : Int) (h : (mapD L).atKey (.int .i64 k) (.lit (.int .i64 0)) = .lit (.int .i64 c)) : c = (getM l k).getD 0 := by
  rw [mapD_at, getM_perm hl hp] at h
  cases hg : getM l k with
  | none => rw [hg] at h; simp at h; simp [← h]
  | some a => rw [hg] at h; simp at h; simp [h]
end
section
variable {tm tk te : TypeId} {b : Nat} {l : List Kv} (w : World) {ops : Array Oper} {rest : List Oper} {o : Oper} {a : Act} {Q : Exit → Act → World → Prop}
/-- 'v, ok := m[k]' -/
theorem wp_lookM (hg : o.guard = none) (m x : Operand) (hop : o.op = Op.lookup tm m x true) (Y : LaysM tm tk te) (hm : a.eval m = .map (some b)) (h : IsM tk te w b l) (k : Int) (hk : -9223372036854775808 ≤ k ∧ k ≤ 9223372036854775807) (hx : a.eval x = .int .i64 k)
    (hK : wpList Try.prog ops Q rest (a.put o.dst (.tuple #[.int .i64 ((getM l k).getD 0), .bool (getM l k).isSome])) w) : wpList Try.prog ops Q (o :: rest) a w := by
  obtain ⟨h1, L, h2, h3⟩ := h
  refine wpList_lookup_own_ok_int w hg m x tm hop tk te .i64 (int_keyed Y.key) Y.und Y.el (Y.zero w) b l.length (mapD L) hm h3 _ (.int .i64 k) hx (keyOf_int_mk Y.key (wf_i64 hk)) ?_
  intro c hc _
  rw [at_val h1 h2 k c hc, mapD_has, getM_perm h1 h2]
  exact hK
/-- 'm[k] = v' -/
theorem wp_putM (hg : o.guard = none) (m x v : Operand) (hop : o.op = Op.mapUpdate tm m x v) (Y : LaysM tm tk te) (hm : a.eval m = .map (some b)) (h : IsM tk te w b l) (hl : l.length ≤ 1000000) (k c : Int) (hk : -9223372036854775808 ≤ k ∧ k ≤ 9223372036854775807) (hc : -9223372036854775808 ≤ c ∧ c ≤ 9223372036854775807) (hx : a.eval x = .int .i64 k) (hv : a.eval v = .int .i64 c)
    (hK : ∀ w', IsM tk te w' b ((k, c) :: delM l k) → w.grownBy w' (some b) → wpList Try.prog ops Q rest (a.put o.dst undef) w') : wpList Try.prog ops Q (o :: rest) a w := by
  obtain ⟨h1, L, h2, h3⟩ := h
  refine wpList_mapUpdate_own w hg m x v tm hop tk te (int_keyed Y.key) Y.und _ b l.length (mapD L) hm h3 (by unfold maxLen; omega) _ _ (.int .i64 k) hx hv (keyOf_int_mk Y.key (wf_i64 hk)) (.lit (.int .i64 c)) [] (plainElem_int Y.el (wf_i64 hc)) ?_
  intro w' hw hg'
  rw [mapD_put] at hw
  have hp : (insM (k, c) (delM L k)).Perm ((k, c) :: delM l k) := (insM_perm _ _).trans ((delM_perm h2 k).cons _)
  have ht := owns_tight hw
  rw [mapD_size, hp.length_eq] at ht
  exact hK w' ⟨once_put h1 k c, _, hp, ht⟩ hg'
/-- 'delete(m, k)' -/
theorem wp_delM (hg : o.guard = none) (m x : Operand) (hop : o.op = Op.call { callee := Callee.builtin Builtin.delete, args := #[m, x], argTypes := #[tm, tk] }) (Y : LaysM tm tk te) (hm : a.eval m = .map (some b)) (h : IsM tk te w b l) (k : Int) (hk : -9223372036854775808 ≤ k ∧ k ≤ 9223372036854775807) (hx : a.eval x = .int .i64 k)
    (hK : ∀ w', IsM tk te w' b (delM l k) → w.grownBy w' (some b) → wpList Try.prog ops Q rest (a.put o.dst (.tuple #[])) w') : wpList Try.prog ops Q (o :: rest) a w := by
  obtain ⟨h1, L, h2, h3⟩ := h
  refine wpList_delete_own w hg m x tm tk hop te (int_keyed Y.key) Y.und _ b l.length (mapD L) hm h3 _ (.int .i64 k) hx (keyOf_int_mk Y.key (wf_i64 hk)) ?_
  intro w' hw ht'
  rw [mapD_del] at hw
  have hp := delM_perm h2 k
  have ht := owns_tight hw
  rw [mapD_size, hp.length_eq] at ht
  exact hK w' ⟨once_del h1 k, _, hp, ht⟩ ht'.grown
/-- .. as one operation (a region that draws its order) -/
theorem op_putM {K : Act → World → Prop} (m x v : Operand) (hop : o.op = Op.mapUpdate tm m x v) (Y : LaysM tm tk te) (hm : a.eval m = .map (some b)) (h : IsM tk te w b l) (hl : l.length ≤ 1000000) (k c : Int) (hk : -9223372036854775808 ≤ k ∧ k ≤ 9223372036854775807) (hc : -9223372036854775808 ≤ c ∧ c ≤ 9223372036854775807) (hx : a.eval x = .int .i64 k) (hv : a.eval v = .int .i64 c)
    (hK : ∀ w', IsM tk te w' b ((k, c) :: delM l k) → w.grownBy w' (some b) → K (a.put o.dst undef) w') : Oper.wp Try.prog o a w K Q := by
  obtain ⟨h1, L, h2, h3⟩ := h
  obtain ⟨w', hrun, hw, hg'⟩ := h3.update (int_keyed Y.key) Y.und (by unfold maxLen; omega) (keyOf_int_mk Y.key (wf_i64 hk)) (plainElem_int Y.el (wf_i64 hc))
  rw [mapD_put] at hw
  have hp : (insM (k, c) (delM L k)).Perm ((k, c) :: delM l k) := (insM_perm _ _).trans ((delM_perm h2 k).cons _)
  have ht := owns_tight hw
  rw [mapD_size, hp.length_eq] at ht
  unfold Oper.wp
  simp [execOp, hop, hm, hx, hv, hrun, Result.andThen]
  exact hK w' ⟨once_put h1 k c, _, hp, ht⟩ hg'
theorem op_delM {K : Act → World → Prop} (m x : Operand) (hop : o.op = Op.call { callee := Callee.builtin Builtin.delete, args := #[m, x], argTypes := #[tm, tk] }) (Y : LaysM tm tk te) (hm : a.eval m = .map (some b)) (h : IsM tk te w b l) (k : Int) (hk : -9223372036854775808 ≤ k ∧ k ≤ 9223372036854775807) (hx : a.eval x = .int .i64 k)
    (hK : ∀ w', IsM tk te w' b (delM l k) → w.grownBy w' (some b) → K (a.put o.dst (.tuple #[])) w') : Oper.wp Try.prog o a w K Q := by
  obtain ⟨h1, L, h2, h3⟩ := h
  obtain ⟨w', hrun, hw, ht'⟩ := h3.drop (int_keyed Y.key) Y.und (keyOf_int_mk Y.key (wf_i64 hk)) o.type
  rw [mapD_del] at hw
  have hp := delM_perm h2 k
  have ht := owns_tight hw
  rw [mapD_size, hp.length_eq] at ht
  unfold Oper.wp
  simp [execOp, hop, resolve, invoke, builtin, hm, hx, hrun, Result.andThen]
  exact hK w' ⟨once_del h1 k, _, hp, ht⟩ ht'.grown
/-- 'len(m)' -/
theorem wp_lenM (hg : o.guard = none) (m : Operand) (hop : o.op = Op.call { callee := Callee.builtin Builtin.len, args := #[m], argTypes := #[tm] }) (Y : LaysM tm tk te) (hm : a.eval m = .map (some b)) (h : IsM tk te w b l)
    (hK : wpList Try.prog ops Q rest (a.put o.dst (.int .i64 (l.length : Int))) w) : wpList Try.prog ops Q (o :: rest) a w := by
  obtain ⟨h1, L, h2, h3⟩ := h
  refine wpList_len_own w hg m tm hop tk te Y.und _ b l.length (mapD L) hm h3 ?_
  rw [mapD_size, h2.length_eq]
  exact hK
end
/-- a range over a map under way: block r counts, these are still to come -/
def RgM (tk te : TypeId) (w : World) (b r : Nat) (l m : List Kv) : Prop :=
  Once l ∧ Once m ∧ (∀ e ∈ m, e ∈ l) ∧ ∃ (L : List Kv) (left : Lit → Bool) (cnt : Nat), L.Perm l ∧ w.ranges Try.prog tk (plainElem Try.prog te) b r l.length (mapD L) left cnt ∧ ∀ k, left (.int .i64 k) = m.any fun e => decide (e.1 = k)
theorem wf_bounds {n : Int} (h : (Lit.int .i64 n).wf = true) : -9223372036854775808 ≤ n ∧ n ≤ 9223372036854775807 := by
  simp [Lit.wf, IntKind.min, IntKind.max, IntKind.bits, IntKind.signed] at h
  omega
section
variable {tm tk te : TypeId} {w : World} {b r : Nat} {l m : List Kv}
theorem RgM.owns (h : RgM tk te w b r l m) : IsM tk te w b l := by
  obtain ⟨h1, -, -, L, left, cnt, h4, h5, -⟩ := h
  exact ⟨h1, L, h4, h5.owns⟩
theorem RgM.ne (h : RgM tk te w b r l m) : r ≠ b := by
  obtain ⟨h1, -, -, L, left, cnt, h4, h5, -⟩ := h
  exact h5.ne
theorem RgM.lt (h : RgM tk te w b r l m) : r < w.heap.size := by
  obtain ⟨h1, -, -, L, left, cnt, h4, h5, -⟩ := h
  exact h5.lt
theorem RgM.kept {w' : World} {row : Option Nat} (h : RgM tk te w b r l m) (hg : w.grownBy w' row) (hb : some b ≠ row) (hr : some r ≠ row) : RgM tk te w' b r l m := by
  obtain ⟨h1, h2, h3, L, left, cnt, h4, h5, h6⟩ := h
  exact ⟨h1, h2, h3, L, left, cnt, h4, h5.kept hg hb hr, h6⟩
theorem RgM.call {w' : World} (h : RgM tk te w b r l m) (hb : Below w.heap.size w w') : RgM tk te w' b r l m :=
  h.kept (row := none) ⟨hb.os, hb.tape, hb.output, hb.size, fun k hk _ => hb.block k hk⟩ (by simp) (by simp)
theorem delM_short {m : List Kv} {e : Kv} (h : e ∈ m) : (delM m e.1).length < m.length := by
  unfold delM
  rcases Nat.lt_or_ge (m.filter fun x => decide (x.1 ≠ e.1)).length m.length with q | q
  · exact q
  · have h2 := List.length_filter_le (fun x : Kv => decide (x.1 ≠ e.1)) m
    have h3 : m.filter (fun x => decide (x.1 ≠ e.1)) = m := List.filter_eq_self.2 (List.length_filter_eq_length_iff.1 (Nat.le_antisymm h2 q))
    have := (List.filter_eq_self.1 h3) e h
    simp at this
end
section
variable {tm tk te : TypeId} {b r : Nat} {l m : List Kv} (w : World) {ops : Array Oper} {rest : List Oper} {o : Oper} {a : Act} {Q : Exit → Act → World → Prop}
/-- 'range m' -/
theorem wp_rangeM (hg : o.guard = none) (x : Operand) (hop : o.op = Op.range tm x) (Y : LaysM tm tk te) (hm : a.eval x = .map (some b)) (h : IsM tk te w b l)
    (hK : ∀ w', RgM tk te w' b w.heap.size l l → Below w.heap.size w w' → w'.heap.size = w.heap.size + 1 → wpList Try.prog ops Q rest (a.put o.dst (.pointer (some ⟨w.heap.size, 0, none⟩))) w') : wpList Try.prog ops Q (o :: rest) a w := by
  obtain ⟨h1, L, h2, h3⟩ := h
  refine wpList_range_own w hg x tm hop tk te (int_keyed Y.key) Y.und _ b l.length (mapD L) hm h3 ?_
  intro w' hr hgr hs
  refine hK w' ⟨h1, h1, fun e he => he, L, _, _, h2, hr, fun k => ?_⟩ ⟨hgr.os, hgr.tape, hgr.output, hgr.size, fun k hk => hgr.block k hk (by simp)⟩ hs
  rw [mapD_has]
  unfold getM
  rw [Option.isSome_map, List.isSome_find?]
  exact h2.any_eq
/-- the next one, whichever it is -/
theorem wp_nextM (hg : o.guard = none) (it : Operand) (hop : o.op = Op.next it false) (Y : LaysM tm tk te) (hit : a.eval it = .pointer (some ⟨r, 0, none⟩)) (h : RgM tk te w b r l m)
    (hDone : m = [] → wpList Try.prog ops Q rest (a.put o.dst (.tuple #[.bool false])) w)
    (hMore : ∀ (k c : Int) (w' : World), (k, c) ∈ m → RgM tk te w' b r l (delM m k) → (delM m k).length < m.length → w.grownBy w' (some r) → w'.heap.size = w.heap.size →
      (Instr.entry (.pointer (some ⟨r, 0, none⟩))).run Try.prog w' = .ok (.tuple #[.int .i64 k, .int .i64 c]) w' → wpList Try.prog ops Q rest (a.put o.dst (.tuple #[.bool true, .int .i64 k, .int .i64 c])) w') : wpList Try.prog ops Q (o :: rest) a w := by
  obtain ⟨h1, h2, h3, L, left, cnt, h4, h5, h6⟩ := h
  refine wpList_next_ranges_ii w hg it hop tk te .i64 .i64 (int_keyed Y.key) Y.key Y.el b r l.length (mapD L) left cnt hit h5 (fun _ hz => hDone ?_) (fun k c w' cnt' hwk hwc hlk hat hrg hlt hgr hsz hen => ?_)
  · cases m with
    | nil => rfl
    | cons e m =>
      have := h6 e.1
      rw [hz] at this
      simp at this
  · have hc := hat (.lit (.int .i64 0))
    have hgt : getM l k = some c := by
      have hz := hat (.map [])
      rw [mapD_at, getM_perm h1 h4] at hz
      cases hq : getM l k with
      | none => rw [hq] at hz; simp at hz
      | some a => rw [hq] at hz; simp at hz; rw [hz]
    rw [h6 k] at hlk
    obtain ⟨e, he, hek⟩ := List.any_eq_true.1 hlk
    have hek' : e.1 = k := by simpa using hek
    have hem : e = (k, c) := by
      have := (getM_iff h1 (k := e.1) (a := e.2)).2 (h3 e he)
      rw [hek', hgt] at this
      obtain ⟨x, y⟩ := e
      simp at this hek'
      rw [hek', this]
    subst hem
    refine hMore k c w' he ⟨h1, once_del h2 k, fun e he => h3 e (delM_mem.1 he).1, L, _, cnt', h4, hrg, fun z => ?_⟩ (delM_short he) hgr hsz hen
    show (left (.int .i64 z) && !(Lit.int .i64 z).sameKey (.int .i64 k)) = _
    rw [h6 z, key_same]
    by_cases hz : z = k
    · subst hz
      simp only [decide_true, Bool.not_true, Bool.and_false]
      symm
      rw [List.any_eq_false]
      intro e he
      have := (delM_mem.1 he).2
      simpa using this
    · rw [decide_eq_false hz, Bool.not_false, Bool.and_true]
      rw [Bool.eq_iff_iff, List.any_eq_true, List.any_eq_true]
      constructor
      · rintro ⟨e, he, hq⟩
        have hq' : e.1 = z := by simpa using hq
        exact ⟨e, delM_mem.2 ⟨he, by rw [hq']; exact hz⟩, hq⟩
      · rintro ⟨e, he, hq⟩
        exact ⟨e, (delM_mem.1 he).1, hq⟩
end
end Go.Proofs.Ytcanaadcjipfjaa
