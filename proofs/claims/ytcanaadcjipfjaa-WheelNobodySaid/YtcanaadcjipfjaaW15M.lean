/- Layer 15, the mathematics: numbers that are due at ticks, in order; each is told once. -/
import Derived.Test.YtcanaadcjipfjaaKit
namespace Go.Proofs.Ytcanaadcjipfjaa
open Go.RowKit
set_option linter.unusedVariables false
set_option linter.unusedSimpArgs false

/-- a number, and when it is due -/
abbrev Du := Int × Int
def aheadB (a b : Du) : Bool := decide (a.2 < b.2) || (decide (a.2 = b.2) && decide (a.1 < b.1))
theorem ahead_iff {a b : Du} : aheadB a b = true ↔ a.2 < b.2 ∨ (a.2 = b.2 ∧ a.1 < b.1) := by unfold aheadB; simp
def delW (l : List Du) (id : Int) : List Du := l.filter fun e => decide (e.1 ≠ id)
def insW (l : List Du) (x : Du) : List Du := (l.takeWhile fun e => aheadB e x) ++ x :: l.dropWhile fun e => aheadB e x
def setE (now id a : Int) : Int := if id < 0 ∨ 255 < id ∨ a ≤ now ∨ 1099511627776 < a then 8 else 0
def setW (l : List Du) (now id a : Int) : List Du := if setE now id a = 0 then insW (delW l id) (id, a) else l
def isW (l : List Du) (id : Int) : Bool := l.any fun e => decide (e.1 = id)
def whenW (l : List Du) (id : Int) : Int := match l.find? fun e => decide (e.1 = id) with
  | some e => e.2
  | none => 0
def gone (now to : Int) : Bool := decide (now < to ∧ to ≤ 1099511627776)
def goL (l : List Du) (now to : Int) : List Du := if gone now to = true then l.takeWhile fun e => decide (e.2 ≤ to) else []
def goW (l : List Du) (now to : Int) : List Du := if gone now to = true then l.dropWhile fun e => decide (e.2 ≤ to) else l
def goN (now to : Int) : Int := if gone now to = true then to else now
def nextW (l : List Du) : Int := (l.head?.map (·.2)).getD 0
def loadW (slots : Nat) (l : List Du) : List Int := (List.range slots).map fun (k : Nat) => ((l.filter fun e => decide (e.2 % (slots : Int) = (k : Int))).length : Int)
/-- a wheel's numbers are in order, each once, of those that may be, all ahead -/
structure GoodW (l : List Du) (now : Int) : Prop where
  o : l.Pairwise (fun a b => aheadB a b = true)
  u : l.Pairwise (fun a b => a.1 ≠ b.1)
  r : ∀ e ∈ l, (0 ≤ e.1 ∧ e.1 ≤ 255) ∧ now < e.2 ∧ e.2 ≤ 1099511627776
  t : 0 ≤ now ∧ now ≤ 1099511627776
theorem good_nil : GoodW [] 0 := ⟨List.Pairwise.nil, List.Pairwise.nil, fun e h => (by cases h), by decide⟩
theorem ahead_trans {a b c : Du} (h : aheadB a b = true) (k : aheadB b c = true) : aheadB a c = true := by
  rw [ahead_iff] at h k ⊢
  omega
theorem ahead_or {a b : Du} (h : a.1 ≠ b.1) : aheadB a b = true ∨ aheadB b a = true := by
  rw [ahead_iff, ahead_iff]
  omega
theorem ins_mem {l : List Du} {x e : Du} : e ∈ insW l x ↔ e ∈ l ∨ e = x := by
  have hs : l = (l.takeWhile fun e => aheadB e x) ++ l.dropWhile fun e => aheadB e x := List.takeWhile_append_dropWhile.symm
  unfold insW
  conv => rhs; rw [hs]
  simp only [List.mem_append, List.mem_cons]
  constructor
  · rintro (h | h | h)
    · exact .inl (.inl h)
    · exact .inr h
    · exact .inl (.inr h)
  · rintro ((h | h) | h)
    · exact .inl h
    · exact .inr (.inr h)
    · exact .inr (.inl h)
theorem ins_len (l : List Du) (x : Du) : (insW l x).length = l.length + 1 := by
  have hs := congrArg List.length (List.takeWhile_append_dropWhile (p := fun e => aheadB e x) (l := l))
  unfold insW
  rw [List.length_append] at hs ⊢
  rw [List.length_cons]
  omega
theorem take_all {p : Du → Bool} : ∀ {l : List Du} {e : Du}, e ∈ l.takeWhile p → p e = true
  | [], e, h => by cases h
  | a :: l, e, h => by
    by_cases ha : p a = true
    · rw [List.takeWhile_cons_of_pos ha] at h
      rcases List.mem_cons.1 h with rfl | h
      · exact ha
      · exact take_all h
    · rw [List.takeWhile_cons_of_neg ha] at h
      cases h
/-- of a list in order all that stand behind the first that is not ahead are not ahead -/
theorem drop_all {l : List Du} (h : l.Pairwise (fun a b => aheadB a b = true)) (x : Du) : ∀ e ∈ l.dropWhile fun e => aheadB e x, ¬ aheadB e x = true := by
  induction l with
  | nil => intro e he; cases he
  | cons a l ih =>
    intro e he
    obtain ⟨h1, h2⟩ := List.pairwise_cons.1 h
    by_cases ha : aheadB a x = true
    · rw [List.dropWhile_cons_of_pos (p := fun e => aheadB e x) ha] at he
      exact ih h2 e he
    · rw [List.dropWhile_cons_of_neg (p := fun e => aheadB e x) ha] at he
      rcases List.mem_cons.1 he with rfl | he
      · exact ha
      · intro q
        exact ha (ahead_trans (h1 e he) q)
theorem ins_order {l : List Du} (h : l.Pairwise (fun a b => aheadB a b = true)) {x : Du} (hx : ∀ e ∈ l, e.1 ≠ x.1) : (insW l x).Pairwise (fun a b => aheadB a b = true) := by
  have hs : (l.takeWhile fun e => aheadB e x) ++ (l.dropWhile fun e => aheadB e x) = l := List.takeWhile_append_dropWhile
  have hp := h
  rw [← hs] at hp
  obtain ⟨p1, p2, p3⟩ := List.pairwise_append.1 hp
  unfold insW
  rw [List.pairwise_append]
  refine ⟨p1, List.pairwise_cons.2 ⟨fun e he => ?_, p2⟩, fun a ha b hb => ?_⟩
  · have hm : e ∈ l := by rw [← hs]; exact List.mem_append.2 (.inr he)
    rcases ahead_or (hx e hm) with q | q
    · exact absurd q (drop_all h x e he)
    · exact q
  · rcases List.mem_cons.1 hb with rfl | hb
    · exact take_all (p := fun e => aheadB e b) ha
    · exact p3 a ha b hb
theorem ins_once {l : List Du} (h : l.Pairwise (fun a b => a.1 ≠ b.1)) {x : Du} (hx : ∀ e ∈ l, e.1 ≠ x.1) : (insW l x).Pairwise (fun a b => a.1 ≠ b.1) := by
  have hs : (l.takeWhile fun e => aheadB e x) ++ (l.dropWhile fun e => aheadB e x) = l := List.takeWhile_append_dropWhile
  have hp := h
  rw [← hs] at hp
  obtain ⟨p1, p2, p3⟩ := List.pairwise_append.1 hp
  unfold insW
  rw [List.pairwise_append]
  refine ⟨p1, List.pairwise_cons.2 ⟨fun e he => ?_, p2⟩, fun a ha b hb => ?_⟩
  · exact fun q => hx e (by rw [← hs]; exact List.mem_append.2 (.inr he)) q.symm
  · rcases List.mem_cons.1 hb with rfl | hb
    · exact hx a (by rw [← hs]; exact List.mem_append.2 (.inl ha))
    · exact p3 a ha b hb
theorem del_mem {l : List Du} {id : Int} {e : Du} : e ∈ delW l id ↔ e ∈ l ∧ e.1 ≠ id := by
  unfold delW
  rw [List.mem_filter, decide_eq_true_iff]
theorem good_del {l : List Du} {now : Int} (h : GoodW l now) (id : Int) : GoodW (delW l id) now :=
  ⟨h.o.filter _, h.u.filter _, fun e he => h.r e (del_mem.1 he).1, h.t⟩
theorem good_set {l : List Du} {now : Int} (h : GoodW l now) (id a : Int) : GoodW (setW l now id a) now := by
  unfold setW
  by_cases he : setE now id a = 0
  · rw [if_pos he]
    unfold setE at he
    by_cases hc : id < 0 ∨ 255 < id ∨ a ≤ now ∨ 1099511627776 < a
    · rw [if_pos hc] at he; cases he
    have hd := good_del h id
    have hx : ∀ e ∈ delW l id, e.1 ≠ ((id, a) : Du).1 := fun e he => (del_mem.1 he).2
    refine ⟨ins_order hd.o hx, ins_once hd.u hx, fun e he => ?_, h.t⟩
    rcases ins_mem.1 he with q | rfl
    · exact hd.r e q
    · simp only
      omega
  · rw [if_neg he]
    exact h
/-- what is told, and what is left -/
theorem go_app (l : List Du) (now to : Int) : goL l now to ++ goW l now to = l := by
  unfold goL goW
  by_cases h : gone now to = true
  · rw [if_pos h, if_pos h, List.takeWhile_append_dropWhile]
  · rw [if_neg h, if_neg h, List.nil_append]
theorem go_told {l : List Du} {now to : Int} {e : Du} (h : e ∈ goL l now to) : e ∈ l ∧ e.2 ≤ to := by
  refine ⟨by rw [← go_app l now to]; exact List.mem_append.2 (.inl h), ?_⟩
  unfold goL at h
  by_cases hg : gone now to = true
  · rw [if_pos hg] at h
    simpa using take_all h
  · rw [if_neg hg] at h
    cases h
theorem go_left {l : List Du} (h : l.Pairwise (fun a b => aheadB a b = true)) {to : Int} : ∀ e ∈ l.dropWhile fun e => decide (e.2 ≤ to), to < e.2 := by
  induction l with
  | nil => intro e he; cases he
  | cons a l ih =>
    intro e he
    obtain ⟨h1, h2⟩ := List.pairwise_cons.1 h
    by_cases ha : a.2 ≤ to
    · rw [List.dropWhile_cons_of_pos (by simpa using ha)] at he
      exact ih h2 e he
    · rw [List.dropWhile_cons_of_neg (by simpa using ha)] at he
      rcases List.mem_cons.1 he with rfl | he
      · omega
      · have := ahead_iff.1 (h1 e he)
        omega
theorem good_go {l : List Du} {now : Int} (h : GoodW l now) (to : Int) : GoodW (goW l now to) (goN now to) := by
  unfold goW goN
  by_cases hg : gone now to = true
  · rw [if_pos hg, if_pos hg]
    unfold gone at hg
    rw [decide_eq_true_iff] at hg
    have hsub : (l.dropWhile fun e => decide (e.2 ≤ to)).Sublist l := List.dropWhile_sublist _
    refine ⟨h.o.sublist hsub, h.u.sublist hsub, fun e he => ?_, by have := h.t; omega⟩
    have hm := hsub.subset he
    obtain ⟨a, b, d⟩ := h.r e hm
    exact ⟨a, go_left h.o e he, d⟩
  · rw [if_neg hg, if_neg hg]
    exact h
/-! ### when each is due, by its number -/
/-- how many of the first n numbers are due -/
def dueN (f : Int → Int) : Nat → Nat
  | 0 => 0
  | n + 1 => dueN f n + if 0 < f n then 1 else 0
def updW (f : Int → Int) (id a : Int) : Int → Int := fun k => if k = id then a else f k
theorem due_same {f g : Int → Int} : ∀ (n : Nat), (∀ k : Int, 0 ≤ k → k < n → f k = g k) → dueN f n = dueN g n
  | 0, _ => rfl
  | n + 1, h => by
    unfold dueN
    rw [due_same n (fun k a b => h k a (by omega)), h n (by omega) (by omega)]
theorem due_upd (f : Int → Int) (id : Nat) (a : Int) : ∀ (n : Nat), id < n → dueN (updW f id a) n + (if 0 < f id then 1 else 0) = dueN f n + (if 0 < a then 1 else 0)
  | 0, h => by cases h
  | n + 1, h => by
    unfold dueN
    by_cases he : id = n
    · subst he
      have e1 : dueN (updW f id a) id = dueN f id := due_same id (fun k _ hk => by unfold updW; rw [if_neg (by omega)])
      have e2 : updW f id a id = a := by unfold updW; rw [if_pos rfl]
      rw [e1, e2]
      omega
    · have ih := due_upd f id a n (by omega)
      have e2 : updW f id a n = f n := by unfold updW; rw [if_neg (by omega)]
      rw [e2]
      omega
/-- the numbers that are due are those of the list -/
structure DueW (l : List Du) (f : Int → Int) : Prop where
  i : ∀ e ∈ l, f e.1 = e.2 ∧ 0 < e.2 ∧ 0 ≤ e.1 ∧ e.1 ≤ 255
  b : ∀ k : Int, 0 ≤ k → k ≤ 255 → f k = 0 ∨ (k, f k) ∈ l
  n : dueN f 256 = l.length
theorem DueW.start : DueW [] (fun _ => 0) := by
  refine ⟨fun e h => (by cases h), fun k _ _ => .inl rfl, ?_⟩
  have : ∀ n, dueN (fun _ => 0) n = 0 := by
    intro n
    induction n with
    | zero => rfl
    | succ n ih => unfold dueN; rw [ih]; rfl
  exact this 256
theorem DueW.is {l : List Du} {f : Int → Int} (h : DueW l f) {id : Int} (h0 : 0 ≤ id) (h1 : id ≤ 255) : isW l id = decide (0 < f id) := by
  unfold isW
  rw [Bool.eq_iff_iff, List.any_eq_true, decide_eq_true_iff]
  constructor
  · rintro ⟨e, he, q⟩
    rw [decide_eq_true_iff] at q
    obtain ⟨a, b, _⟩ := h.i e he
    rw [← q, a]
    exact b
  · intro q
    rcases h.b id h0 h1 with z | z
    · omega
    · exact ⟨_, z, by simp⟩
theorem del_len {l : List Du} (h : l.Pairwise (fun a b => a.1 ≠ b.1)) (id : Int) : (delW l id).length + (if isW l id = true then 1 else 0) = l.length := by
  induction l with
  | nil => rfl
  | cons a l ih =>
    obtain ⟨h1, h2⟩ := List.pairwise_cons.1 h
    have ih := ih h2
    unfold delW isW at ih ⊢
    by_cases ha : a.1 = id
    · have hn : (l.any fun e => decide (e.1 = id)) = false := by
        rw [List.any_eq_false]
        intro e he
        have := h1 e he
        simp only [decide_eq_true_eq]
        omega
      rw [hn] at ih
      rw [List.filter_cons_of_neg (by simpa using ha), List.any_cons, decide_eq_true ha, Bool.true_or, if_pos rfl, List.length_cons]
      rw [if_neg (by decide)] at ih
      omega
    · rw [List.filter_cons_of_pos (by simpa using ha), List.any_cons, decide_eq_false ha, Bool.false_or, List.length_cons, List.length_cons]
      omega
theorem DueW.del {l : List Du} {f : Int → Int} (h : DueW l f) (hu : l.Pairwise (fun a b => a.1 ≠ b.1)) {id : Nat} (h1 : id ≤ 255) : DueW (delW l id) (updW f id 0) := by
  refine ⟨fun e he => ?_, fun k k0 k1 => ?_, ?_⟩
  · obtain ⟨a, b⟩ := del_mem.1 he
    obtain ⟨p, q⟩ := h.i e a
    exact ⟨by unfold updW; rw [if_neg b]; exact p, q⟩
  · unfold updW
    by_cases hk : k = id
    · rw [if_pos hk]; exact .inl rfl
    · rw [if_neg hk]
      rcases h.b k k0 k1 with z | z
      · exact .inl z
      · exact .inr (del_mem.2 ⟨z, hk⟩)
  · have a := due_upd f id 0 256 (by omega)
    have b := del_len hu id
    rw [h.is (by omega) (by omega)] at b
    rw [if_neg (show ¬ (0 : Int) < 0 by decide)] at a
    rw [h.n] at a
    by_cases hp : 0 < f id
    · rw [if_pos hp] at a
      rw [decide_eq_true hp, if_pos rfl] at b
      omega
    · rw [if_neg hp] at a
      rw [decide_eq_false hp, if_neg (by decide)] at b
      omega
theorem DueW.set {l : List Du} {f : Int → Int} {now : Int} (h : DueW l f) (hg : GoodW l now) {id : Nat} {a : Int} (h1 : id ≤ 255) (h2 : now < a) (h3 : a ≤ 1099511627776) : setE now id a = 0 ∧ DueW (setW l now id a) (updW f id a) := by
  have hE : setE now id a = 0 := if_neg (by omega)
  have ha : 0 < a := by have := hg.t; omega
  have hd := h.del hg.u h1
  refine ⟨hE, ?_⟩
  unfold setW
  rw [if_pos hE]
  refine ⟨fun e he => ?_, fun k k0 k1 => ?_, ?_⟩
  · rcases ins_mem.1 he with q | rfl
    · obtain ⟨p, r⟩ := hd.i e q
      have hne := (del_mem.1 q).2
      unfold updW at p ⊢
      rw [if_neg hne] at p ⊢
      exact ⟨p, r⟩
    · exact ⟨by unfold updW; rw [if_pos rfl], ha, by simp only; omega, by simp only; omega⟩
  · unfold updW
    by_cases hk : k = id
    · rw [if_pos hk]
      exact .inr (ins_mem.2 (.inr (by rw [hk])))
    · rw [if_neg hk]
      rcases h.b k k0 k1 with z | z
      · exact .inl z
      · exact .inr (ins_mem.2 (.inl (del_mem.2 ⟨z, hk⟩)))
  · rw [ins_len, ← hd.n]
    have p := due_upd f id 0 256 (by omega)
    have q := due_upd f id a 256 (by omega)
    rw [if_neg (show ¬ (0 : Int) < 0 by decide)] at p
    rw [if_pos ha] at q
    omega
/-- the first one that is told -/
theorem DueW.tell {e : Du} {l : List Du} {f : Int → Int} (h : DueW (e :: l) f) (hu : (e :: l).Pairwise (fun a b => a.1 ≠ b.1)) : f e.1 = e.2 ∧ (0 ≤ e.1 ∧ e.1 ≤ 255) ∧ DueW l (updW f e.1 0) := by
  obtain ⟨a, b, c, d⟩ := h.i e (List.mem_cons_self ..)
  obtain ⟨h1, h2⟩ := List.pairwise_cons.1 hu
  obtain ⟨n, hn⟩ : ∃ n : Nat, e.1 = n := ⟨e.1.toNat, by omega⟩
  have hd := h.del hu (id := n) (by omega)
  have hl : delW (e :: l) n = l := by
    unfold delW
    rw [List.filter_cons_of_neg (by simpa using hn), List.filter_eq_self]
    intro x hx
    have := h1 x hx
    simp only [ne_eq, decide_eq_true_eq]
    omega
  rw [hl] at hd
  rw [hn] at a ⊢
  exact ⟨a, by omega, hd⟩
end Go.Proofs.Ytcanaadcjipfjaa
