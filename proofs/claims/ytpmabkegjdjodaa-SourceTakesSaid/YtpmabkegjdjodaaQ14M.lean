/- Layer 14, the mathematics: a bucket for each source; others change nothing of it. -/
import Derived.Test.YtpmabkegjdjodaaB13M
namespace Go.Proofs.Ytpmabkegjdjodaa
open Go.RowKit
set_option linter.unusedVariables false
set_option linter.unusedSimpArgs false

/-- a source, its bucket's tokens, and since when -/
abbrev En := Int × Int × Int
def mayS (s : Int) : Bool := decide (0 ≤ s ∧ s ≤ 65535)
def ascB : List En → Bool
  | [] => true
  | [_] => true
  | a :: b :: l => decide (a.1 < b.1) && ascB (b :: l)
def chkS14 (B R : Int) (st : List En) : Int :=
  if cnfB B R = false then 8 else if 8 < st.length then 5 else if (st.all fun e => mayS e.1 && finB B R e.2.1 e.2.2) = false then 8 else if ascB st = false then 10 else 0
def clnS (B R : Int) (st : List En) (now : Int) : List En := if chkS14 B R st ≠ 0 then st else st.filter fun e => decide (lvlN B R e.2.1 e.2.2 now < B)
def getS (st : List En) (s : Int) : Option En := st.find? fun e => decide (e.1 = s)
/-- a source's bucket; one that has none has a full one -/
def bukS (B : Int) (st : List En) (s now : Int) : Int × Int := match getS st s with
  | some e => e.2
  | none => (B, hldN now 0 1099511627776)
def lowS (st : List En) (s : Int) : List En := st.filter fun e => decide (e.1 < s)
def higS (st : List En) (s : Int) : List En := st.filter fun e => decide (s < e.1)
def equS (st : List En) (s : Int) : List En := st.filter fun e => decide (e.1 = s)
def putS14 (st : List En) (s : Int) (x : Int × Int) : List En := lowS st s ++ (s, x) :: higS st s
def tkE14 (B R : Int) (st : List En) (s now : Int) : Int :=
  if chkS14 B R st ≠ 0 then chkS14 B R st else if mayS s = false then 2 else if getS (clnS B R st now) s = none ∧ 8 ≤ (clnS B R st now).length then 7
  else if tkB B R (bukS B (clnS B R st now) s now).1 (bukS B (clnS B R st now) s now).2 now 1 = false then 14 else 0
def tkS14 (B R : Int) (st : List En) (s now : Int) : List En :=
  if chkS14 B R st ≠ 0 then st else if mayS s = false then st else if tkE14 B R st s now ≠ 0 then clnS B R st now
  else putS14 (clnS B R st now) s (tkT B R (bukS B (clnS B R st now) s now).1 (bukS B (clnS B R st now) s now).2 now 1, tkA B R (bukS B (clnS B R st now) s now).1 (bukS B (clnS B R st now) s now).2 now 1)
def lvS14 (B R : Int) (st : List En) (s now : Int) : Int := if chkS14 B R st ≠ 0 ∨ mayS s = false then 0 else lvlN B R (bukS B st s now).1 (bukS B st s now).2 now
def wtS14 (B R : Int) (st : List En) (s now : Int) : Int := if chkS14 B R st ≠ 0 ∨ mayS s = false then -1 else waitN B R (bukS B st s now).1 (bukS B st s now).2 now 1

theorem asc_pair : ∀ {l : List En}, ascB l = true ↔ l.Pairwise (fun a b => a.1 < b.1)
  | [] => by simp [ascB]
  | [a] => by simp [ascB]
  | a :: b :: l => by
    have ih := asc_pair (l := b :: l)
    unfold ascB
    rw [Bool.and_eq_true, decide_eq_true_iff, ih]
    constructor
    · rintro ⟨h1, h2⟩
      refine List.pairwise_cons.2 ⟨?_, h2⟩
      intro c hc
      rcases List.mem_cons.1 hc with rfl | hc
      · exact h1
      · exact Int.lt_trans h1 ((List.pairwise_cons.1 h2).1 c hc)
    · intro h
      obtain ⟨h1, h2⟩ := List.pairwise_cons.1 h
      exact ⟨h1 b (List.mem_cons_self ..), h2⟩
theorem chk_iff {B R : Int} {st : List En} : chkS14 B R st = 0 ↔ cnfB B R = true ∧ st.length ≤ 8 ∧ (∀ e ∈ st, mayS e.1 = true ∧ finB B R e.2.1 e.2.2 = true) ∧ st.Pairwise (fun a b => a.1 < b.1) := by
  unfold chkS14
  by_cases h1 : cnfB B R = false
  · rw [if_pos h1, h1]
    simp
  rw [if_neg h1]
  have h1' : cnfB B R = true := by simpa using h1
  by_cases h2 : 8 < st.length
  · rw [if_pos h2]
    constructor
    · intro h; cases h
    · rintro ⟨_, h, _⟩; omega
  rw [if_neg h2]
  by_cases h3 : (st.all fun e => mayS e.1 && finB B R e.2.1 e.2.2) = false
  · rw [if_pos h3]
    constructor
    · intro h; cases h
    · rintro ⟨_, _, h, _⟩
      exfalso
      have : (st.all fun e => mayS e.1 && finB B R e.2.1 e.2.2) = true := List.all_eq_true.2 (fun e he => by rw [Bool.and_eq_true]; exact h e he)
      rw [this] at h3
      cases h3
  rw [if_neg h3]
  have h3' : (st.all fun e => mayS e.1 && finB B R e.2.1 e.2.2) = true := by
    cases hh : (st.all fun e => mayS e.1 && finB B R e.2.1 e.2.2)
    · exact absurd hh h3
    · rfl
  have h3'' : ∀ e ∈ st, mayS e.1 = true ∧ finB B R e.2.1 e.2.2 = true := fun e he => by
    have := List.all_eq_true.1 h3' e he
    rwa [Bool.and_eq_true] at this
  by_cases h4 : ascB st = false
  · rw [if_pos h4]
    constructor
    · intro h; cases h
    · rintro ⟨_, _, _, h⟩
      rw [asc_pair.2 h] at h4
      cases h4
  · rw [if_neg h4]
    have h4' : ascB st = true := by simpa using h4
    exact ⟨fun _ => ⟨h1', by omega, h3'', asc_pair.1 h4'⟩, fun _ => rfl⟩
theorem chk_nil {B R : Int} (h : cnfB B R = true) : chkS14 B R [] = 0 := chk_iff.2 ⟨h, by simp, by simp, List.Pairwise.nil⟩
theorem cln_mem {B R : Int} {st : List En} (h : chkS14 B R st = 0) {now : Int} {e : En} : e ∈ clnS B R st now ↔ e ∈ st ∧ lvlN B R e.2.1 e.2.2 now < B := by
  unfold clnS
  rw [if_neg (by rw [h]; decide), List.mem_filter, decide_eq_true_iff]
theorem cln_chk {B R : Int} {st : List En} (h : chkS14 B R st = 0) (now : Int) : chkS14 B R (clnS B R st now) = 0 := by
  obtain ⟨h1, h2, h3, h4⟩ := chk_iff.1 h
  refine chk_iff.2 ⟨h1, ?_, fun e he => h3 e ((cln_mem h).1 he).1, ?_⟩
  · unfold clnS
    rw [if_neg (by rw [h]; decide)]
    exact Nat.le_trans (List.length_filter_le _ _) h2
  · unfold clnS
    rw [if_neg (by rw [h]; decide)]
    exact h4.filter _
theorem get_some {st : List En} {s : Int} {e : En} (h : getS st s = some e) : e ∈ st ∧ e.1 = s := by
  refine ⟨List.mem_of_find?_eq_some h, ?_⟩
  have := List.find?_some h
  simpa using this
theorem get_none {st : List En} {s : Int} (h : getS st s = none) : ∀ e ∈ st, e.1 ≠ s := by
  intro e he
  have := List.find?_eq_none.1 h e he
  simpa using this
theorem put_mem {st : List En} {s : Int} {x : Int × Int} {e : En} : e ∈ putS14 st s x ↔ (e ∈ st ∧ e.1 ≠ s) ∨ e = (s, x) := by
  unfold putS14 lowS higS
  simp only [List.mem_append, List.mem_cons, List.mem_filter, decide_eq_true_eq]
  constructor
  · rintro (⟨a, b⟩ | h | ⟨a, b⟩)
    · exact .inl ⟨a, by omega⟩
    · exact .inr h
    · exact .inl ⟨a, by omega⟩
  · rintro (⟨a, b⟩ | h)
    · by_cases hlt : e.1 < s
      · exact .inl ⟨a, hlt⟩
      · exact .inr (.inr ⟨a, by omega⟩)
    · exact .inr (.inl h)
theorem two_len (s : Int) : ∀ (l : List En), (lowS l s).length + (higS l s).length + (equS l s).length = l.length
  | [] => rfl
  | a :: l => by
    have ih := two_len s l
    unfold lowS higS equS at ih ⊢
    by_cases h1 : a.1 < s
    · rw [List.filter_cons_of_pos (by simpa using h1), List.filter_cons_of_neg (by simp; omega), List.filter_cons_of_neg (by simp; omega)]
      simp only [List.length_cons]
      omega
    · by_cases h2 : s < a.1
      · rw [List.filter_cons_of_neg (by simpa using h1), List.filter_cons_of_pos (by simpa using h2), List.filter_cons_of_neg (by simp; omega)]
        simp only [List.length_cons]
        omega
      · rw [List.filter_cons_of_neg (by simpa using h1), List.filter_cons_of_neg (by simpa using h2), List.filter_cons_of_pos (by simp; omega)]
        simp only [List.length_cons]
        omega
theorem put_len {st : List En} {s : Int} {x : Int × Int} (h : st.length ≤ 8) (h2 : getS st s = none → st.length < 8) : (putS14 st s x).length ≤ 8 := by
  have ht := two_len s st
  unfold putS14
  rw [List.length_append, List.length_cons]
  cases hg : getS st s with
  | none =>
    have := h2 hg
    omega
  | some e =>
    obtain ⟨a, b⟩ := get_some hg
    have : 0 < (equS st s).length := List.length_pos_of_mem (a := e) (List.mem_filter.2 ⟨a, by simpa using b⟩)
    omega
theorem put_asc {st : List En} {s : Int} {x : Int × Int} (h : st.Pairwise (fun a b => a.1 < b.1)) : (putS14 st s x).Pairwise (fun a b => a.1 < b.1) := by
  unfold putS14 lowS higS
  rw [List.pairwise_append]
  refine ⟨h.filter _, List.pairwise_cons.2 ⟨?_, h.filter _⟩, ?_⟩
  · intro e he
    simpa using (List.mem_filter.1 he).2
  · intro a ha b hb
    have h1 : a.1 < s := by simpa using (List.mem_filter.1 ha).2
    rcases List.mem_cons.1 hb with rfl | hb
    · exact h1
    · have h2 : s < b.1 := by simpa using (List.mem_filter.1 hb).2
      omega
theorem put_chk {B R : Int} {st : List En} (h : chkS14 B R st = 0) {s : Int} (hs : mayS s = true) {x : Int × Int} (hx : finB B R x.1 x.2 = true) (h2 : getS st s = none → st.length < 8) : chkS14 B R (putS14 st s x) = 0 := by
  obtain ⟨a, b, c, d⟩ := chk_iff.1 h
  refine chk_iff.2 ⟨a, put_len b h2, ?_, put_asc d⟩
  intro e he
  rcases put_mem.1 he with ⟨q, _⟩ | rfl
  · exact c e q
  · exact ⟨hs, hx⟩
/-! ### each source's own bucket -/
/-- each entry is its source's own bucket, and who has none has a full one -/
structure Apart (B R : Int) (st : List En) (own : Int → Int × Int) (now : Int) : Prop where
  c : chkS14 B R st = 0
  t : 0 ≤ now ∧ now ≤ 1099511627776
  o : ∀ s, finB B R (own s).1 (own s).2 = true ∧ (own s).2 ≤ now
  e : ∀ e ∈ st, e.2 = own e.1
  n : ∀ s, (∀ e ∈ st, e.1 ≠ s) → lvlN B R (own s).1 (own s).2 now = B
theorem full_stays {B R T A now now' : Int} (h : finB B R T A = true) (h1 : A ≤ now) (h2 : now ≤ now') (h3 : now' ≤ 1099511627776) (hl : lvlN B R T A now = B) : lvlN B R T A now' = B := by
  have e : now' = now + (now' - now) := by omega
  have hc := fin_iff.1 h
  have hp := Int.mul_nonneg hc.1.2.1 (show 0 ≤ now' - now by omega)
  rw [e, lvl_later h h1 (by omega) (by omega), hl]
  omega
theorem Apart.later {B R : Int} {st : List En} {own : Int → Int × Int} {now now' : Int} (h : Apart B R st own now) (h1 : now ≤ now') (h2 : now' ≤ 1099511627776) : Apart B R st own now' :=
  ⟨h.c, ⟨by have := h.t; omega, h2⟩, fun s => ⟨(h.o s).1, by have := (h.o s).2; omega⟩, h.e, fun s hs => full_stays (h.o s).1 (h.o s).2 h1 h2 (h.n s hs)⟩
theorem Apart.clean {B R : Int} {st : List En} {own : Int → Int × Int} {now : Int} (h : Apart B R st own now) : Apart B R (clnS B R st now) own now := by
  refine ⟨cln_chk h.c now, h.t, h.o, fun e he => h.e e ((cln_mem h.c).1 he).1, fun s hs => ?_⟩
  by_cases hm : ∀ e ∈ st, e.1 ≠ s
  · exact h.n s hm
  · have : ∃ e, e ∈ st ∧ e.1 = s := by
      apply Classical.byContradiction
      intro hn
      exact hm (fun e he q => hn ⟨e, he, q⟩)
    obtain ⟨e, he, rfl⟩ := this
    have hb := (lvl_bd (h.o e.1).1 now).2
    apply Classical.byContradiction
    intro hn
    have hlt : lvlN B R e.2.1 e.2.2 now < B := by rw [h.e e he]; omega
    exact hs e ((cln_mem h.c).2 ⟨he, hlt⟩) rfl
/-- the bucket that is looked at has as many tokens as the source's own one -/
theorem Apart.buk {B R : Int} {st : List En} {own : Int → Int × Int} {now : Int} (h : Apart B R st own now) (s : Int) :
    (bukS B st s now = own s ∨ bukS B st s now = (B, now)) ∧ finB B R (bukS B st s now).1 (bukS B st s now).2 = true ∧ (bukS B st s now).2 ≤ now ∧ lvlN B R (bukS B st s now).1 (bukS B st s now).2 now = lvlN B R (own s).1 (own s).2 now := by
  unfold bukS
  cases hg : getS st s with
  | some e =>
    obtain ⟨a, b⟩ := get_some hg
    have := h.e e a
    rw [b] at this
    simp only
    rw [this]
    exact ⟨.inl rfl, (h.o s).1, (h.o s).2, rfl⟩
  | none =>
    simp only
    rw [hld_in h.t.1 h.t.2, h.n s (get_none hg)]
    obtain ⟨⟨q1, q2⟩, q3, q4⟩ := fin_iff.1 (h.o s).1
    have hf : finB B R B now = true := fin_iff.2 ⟨⟨q1, q2⟩, by omega, h.t⟩
    refine ⟨.inr rfl, hf, Int.le_refl _, ?_⟩
    unfold lvlN
    rw [if_pos hf, hld_in (Int.le_refl _) h.t.2, Int.sub_self, Int.mul_zero]
    omega
/-- others' entries change nothing of a source: its level is that of its own bucket -/
theorem Apart.level {B R : Int} {st : List En} {own : Int → Int × Int} {now : Int} (h : Apart B R st own now) {s : Int} (hs : mayS s = true) : lvS14 B R st s now = lvlN B R (own s).1 (own s).2 now := by
  unfold lvS14
  rw [if_neg (by rintro (q | q); exact q h.c; rw [hs] at q; cases q)]
  exact (h.buk s).2.2.2
theorem tk_same {B R T A T' A' now : Int} (h : finB B R T A = true) (h' : finB B R T' A' = true) (h1 : A ≤ now) (h1' : A' ≤ now) (h2 : now ≤ 1099511627776) (hl : lvlN B R T A now = lvlN B R T' A' now) :
    tkB B R T A now 1 = tkB B R T' A' now 1 ∧ (tkB B R T A now 1 = true → tkT B R T A now 1 = tkT B R T' A' now 1 ∧ tkA B R T A now 1 = tkA B R T' A' now 1) := by
  have e : tkB B R T A now 1 = tkB B R T' A' now 1 := by
    unfold tkB
    rw [h, h', hl]
  refine ⟨e, fun ht => ?_⟩
  have ht' := ht
  rw [e] at ht'
  unfold tkT tkA
  rw [if_pos ht, if_pos ht', if_pos ht, if_pos ht', hl, hld_in h1 h2, hld_in h1' h2]
  exact ⟨rfl, rfl⟩
/-- a token of a source: of its own bucket, too, unless there are too many -/
theorem Apart.take {B R : Int} {st : List En} {own : Int → Int × Int} {now : Int} (h : Apart B R st own now) {s : Int} (hs : mayS s = true) :
    (tkE14 B R st s now = 7 → 8 ≤ (clnS B R st now).length ∧ Apart B R (tkS14 B R st s now) own now) ∧
    (tkE14 B R st s now ≠ 7 → (tkE14 B R st s now = 0 ↔ tkB B R (own s).1 (own s).2 now 1 = true) ∧
      Apart B R (tkS14 B R st s now) (fun k => if k = s then (tkT B R (own s).1 (own s).2 now 1, tkA B R (own s).1 (own s).2 now 1) else own k) now) := by
  have hc := h.clean
  obtain ⟨b1, b2, b3, b4⟩ := hc.buk s
  obtain ⟨t1, t2⟩ := tk_same b2 (h.o s).1 b3 (h.o s).2 h.t.2 b4
  have h0 : ¬ chkS14 B R st ≠ 0 := by rw [h.c]; decide
  have hm : ¬ mayS s = false := by rw [hs]; decide
  have eS : tkS14 B R st s now = if tkE14 B R st s now ≠ 0 then clnS B R st now else putS14 (clnS B R st now) s (tkT B R (bukS B (clnS B R st now) s now).1 (bukS B (clnS B R st now) s now).2 now 1, tkA B R (bukS B (clnS B R st now) s now).1 (bukS B (clnS B R st now) s now).2 now 1) := by
    unfold tkS14
    rw [if_neg h0, if_neg hm]
  have eE : tkE14 B R st s now = if getS (clnS B R st now) s = none ∧ 8 ≤ (clnS B R st now).length then 7 else if tkB B R (own s).1 (own s).2 now 1 = false then 14 else 0 := by
    unfold tkE14
    rw [if_neg h0, if_neg hm, t1]
  by_cases hfull : getS (clnS B R st now) s = none ∧ 8 ≤ (clnS B R st now).length
  · rw [if_pos hfull] at eE
    rw [eE] at eS ⊢
    rw [if_pos (by decide)] at eS
    refine ⟨fun _ => ⟨hfull.2, by rw [eS]; exact hc⟩, fun q => absurd rfl q⟩
  · rw [if_neg hfull] at eE
    cases ht : tkB B R (own s).1 (own s).2 now 1
    · rw [ht, if_pos rfl] at eE
      rw [eE] at eS ⊢
      rw [if_pos (by decide)] at eS
      refine ⟨fun q => absurd q (by decide), fun _ => ⟨by simp, ?_⟩⟩
      have e1 : (fun k => if k = s then (tkT B R (own s).1 (own s).2 now 1, tkA B R (own s).1 (own s).2 now 1) else own k) = own := by
        funext k
        by_cases hk : k = s
        · rw [if_pos hk, hk]
          unfold tkT tkA
          rw [ht]
          simp
        · rw [if_neg hk]
      rw [e1, eS]
      exact hc
    · rw [ht, if_neg (by decide)] at eE
      rw [eE] at eS ⊢
      rw [if_neg (by decide)] at eS
      rw [t1] at t2
      obtain ⟨u1, u2⟩ := t2 ht
      rw [u1, u2] at eS
      refine ⟨fun q => absurd q (by decide), fun _ => ⟨by simp, ?_⟩⟩
      have hfx := tk_fine (now := now) (n := 1) (h.o s).1
      have hax : tkA B R (own s).1 (own s).2 now 1 = now := (if_pos ht).trans (hld_in (h.o s).2 h.t.2)
      rw [eS]
      refine ⟨put_chk hc.c hs hfx (fun q => by have := chk_iff.1 hc.c; apply Classical.byContradiction; intro hn; exact hfull ⟨q, by omega⟩), h.t, ?_, ?_, ?_⟩
      · intro k
        by_cases hk : k = s
        · rw [if_pos hk]
          exact ⟨hfx, by rw [hax]; exact Int.le_refl _⟩
        · rw [if_neg hk]
          exact h.o k
      · intro e he
        rcases put_mem.1 he with ⟨q1, q2⟩ | rfl
        · rw [if_neg q2]
          exact hc.e e q1
        · rw [if_pos rfl]
      · intro k hk
        by_cases hks : k = s
        · exact absurd hks.symm (hk _ (put_mem.2 (.inr rfl)))
        · rw [if_neg hks]
          refine hc.n k (fun e he q => ?_)
          exact hk e (put_mem.2 (.inl ⟨he, by rw [q]; exact hks⟩)) q
theorem Apart.start {B R : Int} (h : cnfB B R = true) : Apart B R [] (fun _ => (B, 0)) 0 := by
  obtain ⟨q1, q2⟩ := cnf_iff.1 h
  have hf : finB B R B 0 = true := fin_iff.2 ⟨⟨q1, q2⟩, by omega, by decide⟩
  refine ⟨chk_nil h, by decide, fun s => ⟨hf, Int.le_refl _⟩, (by intro e he; cases he), fun s _ => ?_⟩
  simp only
  unfold lvlN
  rw [if_pos hf, hld_in (by decide) (by decide), Int.sub_self, Int.mul_zero]
  omega
/-- with a rate all buckets are full in time: none stays -/
theorem Apart.empty {B R : Int} {st : List En} {own : Int → Int × Int} {now d : Int} (h : Apart B R st own now) (hR : 1 ≤ R) (hd : B ≤ d) (h2 : now + d ≤ 1099511627776) : clnS B R st (now + d) = [] := by
  rw [List.eq_nil_iff_forall_not_mem]
  intro e he
  obtain ⟨a, b⟩ := (cln_mem h.c).1 he
  rw [h.e e a] at b
  obtain ⟨f, g⟩ := h.o e.1
  have hc := fin_iff.1 f
  rw [lvl_later f g (by omega) h2] at b
  have hl := (lvl_bd f now).1
  have hp : d ≤ R * d := by
    have := Int.mul_le_mul_of_nonneg_right hR (show 0 ≤ d by omega)
    omega
  omega
end Go.Proofs.Ytpmabkegjdjodaa
