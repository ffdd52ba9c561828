/- My own small kit: rows of structs, each laid in z cells; such a row that can be read, one that the call owns; what is put behind it. -/
import Derived.Test.YtcanaadcjipfjaaKit
import Derived.OwnWalk
import Derived.Laws.OwnMore
import Derived.Laws.AppendOwn
import Derived.Laws.AppendOwnNone
import Derived.Maps.AppendAt
namespace Go.Proofs.Ytcanaadcjipfjaa
open Go.RowKit
set_option linter.unusedVariables false
set_option linter.unusedSimpArgs false

/-- v is a slice that reads as these, each laid in z cells -/
def IsR {α : Type} (z : Nat) (cs : α → List Value) (w : World) (v : Value) (l : List α) : Prop :=
  ∃ p cap, v = .slice p l.length cap ∧ (p = none → cap = 0) ∧ ∀ j (h : j < l.length), ∃ b off, p = some ⟨b, off, none⟩ ∧ ∀ c u, (cs l[j])[c]? = some u → w.cell? ⟨b, off + j * z + c, none⟩ = some u
/-- v is a slice of the call's own (from block B on) that holds these -/
def OwnR {α : Type} (te : TypeId) (z : Nat) (cs : α → List Value) (w : World) (B : Nat) (v : Value) (l : List α) : Prop := w.ownsRow B te z v l.length (l.flatMap cs)
/-- an element's type, a slice's of it, how many cells and bytes, the zero one -/
structure LaysR (te ts : TypeId) (z bt : Nat) (zv : Value) : Prop where
  info : (Try.prog.info? te).map (fun i => (i.zero, i.size, i.bytes)) = some (some zv, z, bt)
  und : Try.prog.underlying ts = some (.slice te)
  zc : zv.cells.size = z
  pos : 0 < z
  small : bt ≤ 4096
theorem IsR.call {α : Type} {z : Nat} {cs : α → List Value} {W w1 : World} {v : Value} {l : List α} (h : IsR z cs W v l) (hb : Below W.heap.size W w1) : IsR z cs w1 v l := by
  obtain ⟨p, cap, rfl, hn, h⟩ := h
  refine ⟨p, cap, rfl, hn, fun j hj => ?_⟩
  obtain ⟨b, off, rfl, hc⟩ := h j hj
  exact ⟨b, off, rfl, fun c u hu => (hb.cell (p := ⟨b, off + j * z + c, none⟩) (World.block_lt_of_cell? _ _ (hc c u hu))).trans (hc c u hu)⟩
theorem OwnR.nil {α : Type} (te : TypeId) (z : Nat) (cs : α → List Value) (w : World) (B : Nat) : OwnR te z cs w B (.slice none 0 0) [] := World.ownsRow_nil w B _ _
theorem OwnR.call {α : Type} {te : TypeId} {z : Nat} {cs : α → List Value} {W w1 : World} {B : Nat} {v : Value} {l : List α} (h : OwnR te z cs W B v l) (hb : Below W.heap.size W w1) : OwnR te z cs w1 B v l := by
  obtain ⟨h1, h2⟩ := h
  refine ⟨h1, ?_⟩
  rcases h2 with h2 | ⟨g, cap, cur, hv, hB, hg, r⟩
  · exact .inl h2
  · exact .inr ⟨g, cap, cur, hv, hB, (hb.block g (Array.getElem?_eq_some_iff.1 hg).1).trans hg, r⟩
theorem OwnR.mono {α : Type} {te : TypeId} {z : Nat} {cs : α → List Value} {w : World} {B B' : Nat} {v : Value} {l : List α} (h : OwnR te z cs w B v l) (hB : B' ≤ B) : OwnR te z cs w B' v l := by
  obtain ⟨h1, h2⟩ := h
  refine ⟨h1, ?_⟩
  rcases h2 with h2 | ⟨g, cap, cur, hv, hb, r⟩
  · exact .inl h2
  · exact .inr ⟨g, cap, cur, hv, Nat.le_trans hB hb, r⟩
theorem OwnR.alloc {α : Type} {te : TypeId} {z : Nat} {cs : α → List Value} {w : World} {B : Nat} {v : Value} {l : List α} (h : OwnR te z cs w B v l) (o : Obj) : OwnR te z cs (w.alloc o) B v l := World.ownsRow.alloc h o
theorem OwnR.form {α : Type} {te : TypeId} {z : Nat} {cs : α → List Value} {w : World} {B : Nat} {v : Value} {l : List α} (h : OwnR te z cs w B v l) : ∃ p cap, v = .slice p l.length cap := by
  rcases h.2 with ⟨hv, hn⟩ | ⟨g, cap, cur, hv, r⟩
  · exact ⟨none, 0, by rw [hv, hn]⟩
  · exact ⟨_, cap, hv⟩
theorem flat_sz {α : Type} {z : Nat} {cs : α → List Value} (hz : ∀ x, (cs x).length = z) : ∀ l : List α, (l.flatMap cs).length = l.length * z
  | [] => by simp
  | x :: l => by rw [List.flatMap_cons, List.length_append, hz, flat_sz hz l, List.length_cons, Nat.succ_mul, Nat.add_comm]
theorem flat_at {α : Type} {z : Nat} {cs : α → List Value} (hz : ∀ x, (cs x).length = z) : ∀ (l : List α) (j c : Nat) (hj : j < l.length), c < z → (l.flatMap cs)[j * z + c]? = (cs l[j])[c]?
  | [], _, _, hj, _ => by cases hj
  | x :: l, 0, c, _, hc => by
    rw [List.flatMap_cons, Nat.zero_mul, Nat.zero_add, List.getElem?_append_left (by rw [hz]; exact hc)]
    rfl
  | x :: l, j + 1, c, hj, hc => by
    rw [List.flatMap_cons, List.getElem?_append_right (by rw [hz, Nat.succ_mul]; omega), hz, show (j + 1) * z + c - z = j * z + c by rw [Nat.succ_mul]; omega]
    exact flat_at hz l j c (by simpa using hj) hc
theorem OwnR.reads {α : Type} {te : TypeId} {z : Nat} {cs : α → List Value} (hz : ∀ x, (cs x).length = z) {w : World} {B : Nat} {v : Value} {l : List α} (h : OwnR te z cs w B v l) : IsR z cs w v l := by
  have h' : w.ownsRow B te z v l.length (l.flatMap cs) := h
  rcases h.2 with ⟨hv, hn⟩ | ⟨g, cap, cur, hv, hB, hg, r⟩
  · obtain rfl := List.eq_nil_of_length_eq_zero hn
    exact ⟨none, 0, hv, fun _ => rfl, fun j hj => by cases hj⟩
  · subst hv
    refine ⟨_, cap, rfl, (fun e => by cases e), fun j hj => ⟨g, 0, rfl, fun c u hu => ?_⟩⟩
    have hc : c < z := by
      have := (List.getElem?_eq_some_iff.1 hu).1
      rw [hz] at this
      exact this
    have hlt : j * z + c < l.length * z := by
      have : (j + 1) * z ≤ l.length * z := Nat.mul_le_mul_right z hj
      rw [Nat.succ_mul] at this
      omega
    rw [Nat.zero_add, h'.cellAt (j * z + c) hlt, flat_at hz l j c hj hc, hu]
/-- a slice's first k, and what is behind -/
theorem IsR.cut {α : Type} {z : Nat} {cs : α → List Value} {w : World} {l : List α} {b off cap : Nat} (h : IsR z cs w (.slice (some ⟨b, off, none⟩) l.length cap) l) : ∀ j (hj : j < l.length) c u, (cs l[j])[c]? = some u → w.cell? ⟨b, off + j * z + c, none⟩ = some u := by
  obtain ⟨p, cp, e, _, h⟩ := h
  intro j hj c u hu
  obtain ⟨b', off', e', hc⟩ := h j hj
  cases e
  cases e'
  exact hc c u hu
/-- what is put behind: a row that can be read -/
theorem app_row {α : Type} {te ts : TypeId} {z bt : Nat} {zv : Value} (L : LaysR te ts z bt zv) {cs : α → List Value} (hz : ∀ x, (cs x).length = z) (h1 : ∀ x, ∀ u ∈ cs x, u.oneCell' = true)
    {w : World} {ops : Array Oper} {rest : List Oper} {o : Oper} {a : Act} {Q : Exit → Act → World → Prop} (hgd : o.guard = none) (s x : Operand)
    (ho : o.op = .call { callee := .builtin .append, args := #[s, x], argTypes := #[ts, ts] }) (B : Nat) (l l2 : List α) (v v2 : Value)
    (hs : a.eval s = v) (hown : OwnR te z cs w B v l) (hx : a.eval x = v2) (hr : IsR z cs w v2 l2) (hl : l.length + l2.length ≤ 1000000000) (hB : B ≤ w.heap.size)
    (h : ∀ v' w', OwnR te z cs w' B v' (l ++ l2) → Below B w w' → w.grownBy w' v.ownBlock → (v'.ownBlock = v.ownBlock ∨ v'.ownBlock = some w.heap.size) → wpList Try.prog ops Q rest (a.put o.dst v') w') : wpList Try.prog ops Q (o :: rest) a w := by
  obtain ⟨i0, hi, hz0, hz1, hz2⟩ := info_parts L.info
  obtain ⟨p, cap, rfl, hn, hc⟩ := hr
  have hbt : (l.length + l2.length) * bt ≤ 140737488355328 := by
    have := Nat.mul_le_mul hl L.small
    omega
  cases p with
  | none =>
    obtain rfl := hn rfl
    have e2 : l2 = [] := by
      cases l2 with
      | nil => rfl
      | cons y t =>
        obtain ⟨b, off, hp, _⟩ := hc 0 (by simp)
        cases hp
    subst e2
    refine wpList_append_own_none hgd s x ts ho B te i0 z L.und hi v l.length (l.flatMap cs) hs hown hx ?_
    refine h v w (by rw [List.append_nil]; exact hown) (Below.refl _ _) ⟨rfl, rfl, rfl, Nat.le_refl _, fun _ _ _ => rfl⟩ (.inl rfl)
  | some ad =>
    have hnew : ∀ j u, (l2.flatMap cs)[j]? = some u → w.cell? (ad.add j) = some u := by
      intro j u hu
      have hj : j < l2.length * z := by
        have := (List.getElem?_eq_some_iff.1 hu).1
        rw [flat_sz hz] at this
        exact this
      have hjz : j / z < l2.length := Nat.div_lt_of_lt_mul (by rw [Nat.mul_comm]; exact hj)
      have hjm : j % z < z := Nat.mod_lt _ L.pos
      have he : j = j / z * z + j % z := by rw [Nat.mul_comm]; exact (Nat.div_add_mod j z).symm
      obtain ⟨b, off, hp, hcc⟩ := hc (j / z) hjz
      cases hp
      have h2 := flat_at hz l2 (j / z) (j % z) hjz hjm
      rw [← he, hu] at h2
      have := hcc (j % z) u h2.symm
      show w.cell? (Addr.add ⟨b, off, none⟩ j) = some u
      rw [show Addr.add ⟨b, off, none⟩ j = ⟨b, off + j / z * z + j % z, none⟩ from by rw [Addr.add_lit, Nat.add_assoc, ← he]]
      exact this
    refine wpList_append_own_at w hgd s x ts ho B te i0 zv z bt L.und hi hz0 hz1 hz2 L.zc L.pos v l.length (l.flatMap cs) hs hown ad l2.length cap (l2.flatMap cs) hx (flat_sz hz l2) hnew (fun u hu => ?_) (by unfold maxLen; omega) hbt hB ?_
    · obtain ⟨y, _, hy⟩ := List.mem_flatMap.1 hu
      exact h1 y u hy
    · intro v' w' h2 h3 _ h5
      refine h v' w' ?_ ((Below.refl B w).grown h3 hB (fun j hj => (World.ownsRow.lt hown j hj).1)) h3 h5
      show w'.ownsRow _ _ _ _ (l ++ l2).length ((l ++ l2).flatMap cs)
      rw [List.length_append, List.flatMap_append]
      exact h2
/-- what is put behind: a row that can be read (one operation) -/
theorem wp_app_row {α : Type} {te ts : TypeId} {z bt : Nat} {zv : Value} (L : LaysR te ts z bt zv) {cs : α → List Value} (hz : ∀ x, (cs x).length = z) (h1 : ∀ x, ∀ u ∈ cs x, u.oneCell' = true)
    {w : World} {o : Oper} {a : Act} {K : Act → World → Prop} {Q : Exit → Act → World → Prop} (s x : Operand)
    (ho : o.op = .call { callee := .builtin .append, args := #[s, x], argTypes := #[ts, ts] }) (B : Nat) (l l2 : List α) (v v2 : Value)
    (hs : a.eval s = v) (hown : OwnR te z cs w B v l) (hx : a.eval x = v2) (hr : IsR z cs w v2 l2) (hl : l.length + l2.length ≤ 1000000000) (hB : B ≤ w.heap.size)
    (h : ∀ v' w', OwnR te z cs w' B v' (l ++ l2) → Below B w w' → w.grownBy w' v.ownBlock → K (a.put o.dst v') w') : Oper.wp Try.prog o a w K Q := by
  obtain ⟨i0, hi, hz0, hz1, hz2⟩ := info_parts L.info
  obtain ⟨p, cap, rfl, hn, hc⟩ := hr
  have hbt : (l.length + l2.length) * bt ≤ 140737488355328 := by
    have := Nat.mul_le_mul hl L.small
    omega
  cases p with
  | none =>
    obtain rfl := hn rfl
    have e2 : l2 = [] := by
      cases l2 with
      | nil => rfl
      | cons y t =>
        obtain ⟨b, off, hp, _⟩ := hc 0 (by simp)
        cases hp
    subst e2
    have hrun := run_append_owned_none (P := Try.prog) (w := w) B ts o.type te i0 z L.und hi v l.length (l.flatMap cs) hown
    unfold Oper.wp
    simp only [List.length_nil] at hx
    simp [execOp, ho, resolve, invoke, builtin, hs, hx, hrun, Result.andThen]
    exact h v w (by rw [List.append_nil]; exact hown) (Below.refl _ _) ⟨rfl, rfl, rfl, Nat.le_refl _, fun _ _ _ => rfl⟩
  | some ad =>
    have hnew : ∀ j u, (l2.flatMap cs)[j]? = some u → w.cell? (ad.add j) = some u := by
      intro j u hu
      have hj : j < l2.length * z := by
        have := (List.getElem?_eq_some_iff.1 hu).1
        rw [flat_sz hz] at this
        exact this
      have hjz : j / z < l2.length := Nat.div_lt_of_lt_mul (by rw [Nat.mul_comm]; exact hj)
      have hjm : j % z < z := Nat.mod_lt _ L.pos
      have he : j = j / z * z + j % z := by rw [Nat.mul_comm]; exact (Nat.div_add_mod j z).symm
      obtain ⟨b, off, hp, hcc⟩ := hc (j / z) hjz
      cases hp
      have h2 := flat_at hz l2 (j / z) (j % z) hjz hjm
      rw [← he, hu] at h2
      have := hcc (j % z) u h2.symm
      show w.cell? (Addr.add ⟨b, off, none⟩ j) = some u
      rw [show Addr.add ⟨b, off, none⟩ j = ⟨b, off + j / z * z + j % z, none⟩ from by rw [Addr.add_lit, Nat.add_assoc, ← he]]
      exact this
    refine wp_append_own w s x ts ho B te i0 zv z bt L.und hi hz0 hz1 hz2 L.zc L.pos v l.length (l.flatMap cs) hs hown ad l2.length cap (l2.flatMap cs) hx (flat_sz hz l2) hnew (fun u hu => ?_) (by unfold maxLen; omega) hbt hB ?_
    · obtain ⟨y, _, hy⟩ := List.mem_flatMap.1 hu
      exact h1 y u hy
    · intro v' w' h2 h3 _
      refine h v' w' ?_ ((Below.refl B w).grown h3 hB (fun j hj => (World.ownsRow.lt hown j hj).1)) h3
      show w'.ownsRow _ _ _ _ (l ++ l2).length ((l ++ l2).flatMap cs)
      rw [List.length_append, List.flatMap_append]
      exact h2
/-- a block made for one element reads as a row of one -/
theorem isR_one {α : Type} {z : Nat} {cs : α → List Value} (w : World) (x : α) (t : TypeId) (cap : Nat) (hc : cap = 1) {vs : Array Value} (hvs : vs.toList = cs x) : IsR z cs (w.alloc (.cells vs t)) (.slice (some ⟨w.heap.size, 0, none⟩) 1 cap) [x] := by
  refine ⟨_, cap, rfl, (fun e => by cases e), fun j hj => ⟨w.heap.size, 0, rfl, fun c u hu => ?_⟩⟩
  have hj0 : j = 0 := by simp at hj; omega
  subst hj0
  rw [Nat.zero_mul, Nat.add_zero, Nat.zero_add]
  simp only [List.getElem_cons_zero] at hu
  rw [← hvs] at hu
  have e : (w.alloc (.cells vs t)).heap[w.heap.size]? = some (.cells vs t (0, 0)) := by
    show (w.heap.push _)[w.heap.size]? = _
    simp
  unfold World.cell?
  rw [e]
  simpa using hu
/-- a block made for these elements reads as their row -/
theorem isR_block {α : Type} {z : Nat} {cs : α → List Value} (hz : ∀ x, (cs x).length = z) (w : World) (l : List α) (t : TypeId) (b k cap : Nat) (hb : b = w.heap.size) (hk : k = l.length) {vs : Array Value} (hvs : vs.toList = l.flatMap cs) : IsR z cs (w.alloc (.cells vs t)) (.slice (some ⟨b, 0, none⟩) k cap) l := by
  subst hk
  subst hb
  refine ⟨_, cap, rfl, (fun e => by cases e), fun j hj => ⟨w.heap.size, 0, rfl, fun c u hu => ?_⟩⟩
  have hc : c < z := by
    have := (List.getElem?_eq_some_iff.1 hu).1
    rw [hz] at this
    exact this
  have h2 := flat_at hz l j c hj hc
  rw [hu, ← hvs] at h2
  rw [Nat.zero_add]
  have e : (w.alloc (.cells vs t)).heap[w.heap.size]? = some (.cells vs t (0, 0)) := by
    show (w.heap.push _)[w.heap.size]? = _
    simp
  unfold World.cell?
  rw [e]
  simpa using h2
/-- a store below a row of the call's own leaves it -/
theorem OwnR.set {α : Type} {te : TypeId} {z : Nat} {cs : α → List Value} {w : World} {B : Nat} {v : Value} {l : List α} (h : OwnR te z cs w B v l) {p : Addr} (hp : p.block < B) (u : Value) : OwnR te z cs (w.setCell p u) B v l := by
  obtain ⟨h1, h2⟩ := h
  refine ⟨h1, ?_⟩
  rcases h2 with h2 | ⟨g, cap, cur, hv, hB, hg, r⟩
  · exact .inl h2
  · exact .inr ⟨g, cap, cur, hv, hB, (Below.heap_setCell _ _ _ g (by omega)).trans hg, r⟩
theorem IsR.nil {α : Type} (z : Nat) (cs : α → List Value) (w : World) : IsR z cs w (.slice none 0 0) ([] : List α) := ⟨none, 0, rfl, (fun _ => rfl), fun j hj => by cases hj⟩
/-- an empty row, made of the call's own -/
theorem OwnR.made0 {α : Type} {te : TypeId} {z : Nat} {cs : α → List Value} (w : World) (B : Nat) (hB : B ≤ w.heap.size) : OwnR te z cs (w.alloc (.cells #[] te)) B (.slice (some ⟨w.heap.size, 0, none⟩) 0 0) ([] : List α) := by
  have e : (w.alloc (.cells #[] te)).heap[w.heap.size]? = some (.cells #[] te (0, 0)) := by
    show (w.heap.push _)[w.heap.size]? = _
    simp
  exact ⟨by simp, .inr ⟨w.heap.size, 0, #[], rfl, hB, e, Nat.le_refl _, Nat.zero_le _, by simp, by simp⟩⟩
end Go.Proofs.Ytcanaadcjipfjaa
