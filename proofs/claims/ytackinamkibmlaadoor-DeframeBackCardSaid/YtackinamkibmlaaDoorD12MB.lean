/- Layer 12, the mathematics: frames that come in pieces; what was encoded is told, all of it. -/
import Derived.Test.YtackinamkibmlaaDoorR11M
import Derived.Test.YtackinamkibmlaaDoorS10E
import Derived.Test.YtackinamkibmlaaDoorKitRow
import Derived.Test.YtackinamkibmlaaDoorKitE
import Derived.Test.YtackinamkibmlaaDoorKitS
import Derived.Test.YtackinamkibmlaaDoorA9G
namespace Go.Proofs.YtackinamkibmlaaDoor
open Go.RowKit
set_option linter.unusedVariables false
set_option linter.unusedSimpArgs false

/-- what came of a frame: the bytes, what is wrong, how many came -/
structure Ds where
  buf : ByteArray
  bad : Int
  seen : Int
def chkD (s : Ds) : Int := if s.bad ≠ 0 ∧ s.buf.size ≠ 0 then 4 else if gtE s.buf.data.toList ≠ 3 then 5 else if s.seen < 0 then 8 else 0
def offD (s : Ds) : Bool := decide (s.bad ≠ 0 ∨ chkD s ≠ 0)
/-- what bytes leave, where so many frames came ahead -/
def wrpD (n : Int) (k : Nat) : Int := if k = 0 then n else IntKind.i64.wrap (n + k)
def stepD (l : List UInt8) (n : Int) : Ds := if gtE (pr l).2 = 3 then ⟨⟨(pr l).2.toArray⟩, 0, wrpD n (pr l).1.length⟩ else ⟨⟨#[]⟩, gtE (pr l).2, wrpD n (pr l).1.length⟩
def txS (s : Ds) (b : List UInt8) : Ds := if offD s = true then s else stepD (s.buf.data.toList ++ b) s.seen
def txL (s : Ds) (b : List UInt8) : List ByteArray := if offD s = true then [] else (pr (s.buf.data.toList ++ b)).1
/-- a text as a stanza, or why it is none -/
def itD (t : ByteArray) : St × Int := (rdS t, rdE t)
def needD (s : Ds) : Int := if offD s = true then 0 else if s.buf.size < 2 then 2 - (s.buf.size : Int) else 2 + (lenG s.buf.data.toList : Int) - s.buf.size
/-- the state behind some bytes -/
def finD (l : List UInt8) : Ds := if gtE (pr l).2 = 3 then ⟨⟨(pr l).2.toArray⟩, 0, (pr l).1.length⟩ else ⟨⟨#[]⟩, gtE (pr l).2, (pr l).1.length⟩

theorem gtE_nil : gtE [] = 3 := rfl
theorem lenG_app {l : List UInt8} (h : 2 ≤ l.length) (b : List UInt8) : lenG (l ++ b) = lenG l := by
  match l, h with
  | [], h => simp at h
  | [a], h => simp at h
  | a :: c :: t, _ => rfl
theorem gt_app {l : List UInt8} (h : gtE l ≠ 3) (b : List UInt8) : gtE (l ++ b) = gtE l := by
  have h2 : 2 ≤ l.length := by
    apply Classical.byContradiction
    intro hn
    apply h
    unfold gtE
    rw [if_pos (by omega)]
  unfold gtE at h ⊢
  rw [lenG_app h2, List.length_append]
  rw [if_neg (by omega), if_neg (by omega : ¬ l.length < 2)]
  rw [if_neg (by omega : ¬ l.length < 2)] at h
  by_cases h0 : lenG l = 0
  · rw [if_pos h0, if_pos h0]
  · rw [if_neg h0, if_neg h0]
    rw [if_neg h0] at h
    by_cases h1 : 128 < lenG l
    · rw [if_pos h1, if_pos h1]
    · rw [if_neg h1, if_neg h1]
      rw [if_neg h1] at h
      by_cases h3 : l.length - 2 < lenG l
      · rw [if_pos h3] at h; exact absurd rfl h
      · rw [if_neg h3, if_neg (by omega)]
/-- a frame that lacks: how many bytes, at least -/
theorem gt_lack {l : List UInt8} (h : gtE l = 3) : l.length < 2 ∨ (2 ≤ l.length ∧ l.length < lenG l + 2 ∧ lenG l ≤ 128) := by
  by_cases h2 : l.length < 2
  · exact .inl h2
  · refine .inr ?_
    unfold gtE at h
    rw [if_neg h2] at h
    by_cases h0 : lenG l = 0
    · rw [if_pos h0] at h; cases h
    rw [if_neg h0] at h
    by_cases h1 : 128 < lenG l
    · rw [if_pos h1] at h; cases h
    rw [if_neg h1] at h
    by_cases h3 : l.length - 2 < lenG l
    · omega
    · rw [if_neg h3] at h; cases h
theorem pr_app (l b : List UInt8) : pr (l ++ b) = ((pr l).1 ++ (pr ((pr l).2 ++ b)).1, (pr ((pr l).2 ++ b)).2) := by
  obtain ⟨h1, h2⟩ := pr_all l.length l (Nat.le_refl _)
  have e : l ++ b = (pr l).1.flatMap frmB ++ ((pr l).2 ++ b) := by
    rw [← List.append_assoc, ← h1]
  rw [e, pr_flat h2]
theorem pr_ne (l : List UInt8) : gtE (pr l).2 ≠ 0 := pr_end l.length l (Nat.le_refl _)
theorem flat_len : ∀ (fs : List ByteArray), fs.length ≤ (fs.flatMap frmB).length
  | [] => Nat.le_refl _
  | s :: fs => by
    have := flat_len fs
    rw [List.flatMap_cons, List.length_append, frmB_len, List.length_cons]
    omega
theorem pr_len (l : List UInt8) : (pr l).1.length + (pr l).2.length ≤ l.length := by
  obtain ⟨h1, _⟩ := pr_all l.length l (Nat.le_refl _)
  have := flat_len (pr l).1
  have e := congrArg List.length h1
  rw [List.length_append] at e
  omega
theorem fin_bad (l : List UInt8) : (finD l).bad = if gtE (pr l).2 = 3 then 0 else gtE (pr l).2 := by
  unfold finD; split <;> rfl
theorem fin_chk (l : List UInt8) : chkD (finD l) = 0 := by
  unfold finD
  by_cases h : gtE (pr l).2 = 3
  · rw [if_pos h]
    unfold chkD
    rw [if_neg (by simp), if_neg (by simpa using h), if_neg (by simp)]
  · rw [if_neg h]
    unfold chkD
    rw [if_neg (by rintro ⟨_, q⟩; exact q rfl), if_neg (by rw [show (⟨#[]⟩ : ByteArray).data.toList = [] from rfl, gtE_nil]; decide), if_neg (by simp)]
theorem fin_off (l : List UInt8) : offD (finD l) = decide (gtE (pr l).2 ≠ 3) := by
  unfold offD
  rw [decide_eq_decide, fin_bad]
  have h0 := pr_ne l
  have hc := fin_chk l
  by_cases h : gtE (pr l).2 = 3
  · rw [if_pos h]
    constructor
    · rintro (q | q)
      · exact absurd rfl q
      · exact absurd hc q
    · intro q; exact absurd h q
  · rw [if_neg h]
    exact ⟨fun _ => h, fun _ => .inl h0⟩
/-- it is nothing in what pieces bytes come -/
theorem tx_fin (l b : List UInt8) (h : (l ++ b).length ≤ 1000000) : txS (finD l) b = finD (l ++ b) ∧ (pr (l ++ b)).1 = (pr l).1 ++ txL (finD l) b := by
  have hp := pr_app l b
  have hn := pr_len (l ++ b)
  by_cases h3 : gtE (pr l).2 = 3
  · have ho : ¬ offD (finD l) = true := by rw [fin_off]; simpa using h3
    have hf : finD l = ⟨⟨(pr l).2.toArray⟩, 0, (pr l).1.length⟩ := if_pos h3
    have hb : (finD l).buf.data.toList = (pr l).2 := by rw [hf]
    have hs : (finD l).seen = ((pr l).1.length : Int) := by rw [hf]
    unfold txS txL
    rw [if_neg ho, if_neg ho, hb, hs]
    have e1 : (pr (l ++ b)).1 = (pr l).1 ++ (pr ((pr l).2 ++ b)).1 := by rw [hp]
    have e2 : (pr (l ++ b)).2 = (pr ((pr l).2 ++ b)).2 := by rw [hp]
    refine ⟨?_, e1⟩
    have el := congrArg List.length e1
    rw [List.length_append] at el
    have ew : wrpD ((pr l).1.length : Int) (pr ((pr l).2 ++ b)).1.length = ((pr (l ++ b)).1.length : Int) := by
      unfold wrpD
      by_cases hk : (pr ((pr l).2 ++ b)).1.length = 0
      · rw [if_pos hk]
        omega
      · rw [if_neg hk, IntWalk.i64_in _ (by omega)]
        omega
    unfold stepD finD
    rw [ew, e2]
  · have ho : offD (finD l) = true := by rw [fin_off]; simpa using h3
    unfold txS txL
    rw [if_pos ho, if_pos ho, List.append_nil]
    have hg : gtE ((pr l).2 ++ b) = gtE (pr l).2 := gt_app h3 b
    have hq : pr ((pr l).2 ++ b) = ([], (pr l).2 ++ b) := pr_no (by rw [hg]; exact pr_ne l)
    rw [hq] at hp
    have e1 : (pr (l ++ b)).1 = (pr l).1 := by rw [hp]; simp
    have e2 : (pr (l ++ b)).2 = (pr l).2 ++ b := by rw [hp]
    refine ⟨?_, e1⟩
    unfold finD
    rw [e1, e2, hg, if_neg h3, if_neg h3]
theorem one_more (r : List UInt8) (c : UInt8) (h : gtE r = 3) : (pr (r ++ [c])).1.length ≤ 1 := by
  by_cases h0 : gtE (r ++ [c]) = 0
  · obtain ⟨-, -, -, hn, hl⟩ := gt_bwd h0
    rw [pr_yes h0]
    have hlen : (r ++ [c]).length = r.length + 1 := by simp
    rcases gt_lack h with hr | ⟨h2, h4, -⟩
    · exfalso
      unfold gtE at h0
      rw [hlen] at h0 hl
      by_cases a : r.length + 1 < 2
      · rw [if_pos a] at h0; cases h0
      rw [if_neg a] at h0
      by_cases b : lenG (r ++ [c]) = 0
      · rw [if_pos b] at h0; cases h0
      omega
    · rw [lenG_app h2] at hn
      have hd : (r ++ [c]).drop (gtN (r ++ [c])) = [] := by
        rw [List.drop_eq_nil_iff, hlen]
        omega
      rw [hd, pr_nil]
      simp
  · rw [pr_no h0]
    simp
theorem one_fin (l : List UInt8) (c : UInt8) : (txL (finD l) [c]).length ≤ 1 := by
  unfold txL
  by_cases h3 : gtE (pr l).2 = 3
  · have ho : ¬ offD (finD l) = true := by rw [fin_off]; simpa using h3
    have hb : (finD l).buf.data.toList = (pr l).2 := by unfold finD; rw [if_pos h3]
    rw [if_neg ho, hb]
    exact one_more _ c h3
  · have ho : offD (finD l) = true := by rw [fin_off]; simpa using h3
    rw [if_pos ho]
    exact Nat.zero_le _
theorem fin_nil : finD [] = ⟨⟨#[]⟩, 0, 0⟩ := rfl
/-! ### what was encoded -/
theorem enc_all {fs : List ByteArray} (h : ∀ s ∈ fs, okF s) : pr (fs.flatMap frmB) = (fs, []) := by
  have := pr_flat (r := []) h
  rw [List.append_nil, pr_nil, List.append_nil] at this
  exact this
/-- behind any of its beginnings -/
theorem enc_part {fs : List ByteArray} (h : ∀ s ∈ fs, okF s) {l t : List UInt8} (e : fs.flatMap frmB = l ++ t) :
    gtE (pr l).2 = 3 ∧ fs = (pr l).1 ++ (pr ((pr l).2 ++ t)).1 ∧ (pr ((pr l).2 ++ t)).2 = [] := by
  have ha := enc_all h
  rw [e, pr_app] at ha
  have h1 := (Prod.mk.inj ha).1
  have h2 := (Prod.mk.inj ha).2
  refine ⟨?_, h1.symm, h2⟩
  apply Classical.byContradiction
  intro h3
  have hg : gtE ((pr l).2 ++ t) = gtE (pr l).2 := gt_app h3 t
  rw [pr_no (by rw [hg]; exact pr_ne l)] at h2
  have h2' : (pr l).2 ++ t = [] := h2
  have : (pr l).2 = [] := (List.append_eq_nil_iff.1 h2').1
  rw [this] at h3
  exact h3 gtE_nil
/-- as many bytes as are needed are there -/
theorem enc_need {fs : List ByteArray} (h : ∀ s ∈ fs, okF s) {l t : List UInt8} (e : fs.flatMap frmB = l ++ t) (ht : t ≠ []) : 1 ≤ needD (finD l) ∧ needD (finD l) ≤ t.length := by
  obtain ⟨h3, _, h2⟩ := enc_part h e
  have ho : ¬ offD (finD l) = true := by rw [fin_off]; simpa using h3
  have hf : finD l = ⟨⟨(pr l).2.toArray⟩, 0, (pr l).1.length⟩ := if_pos h3
  have hb : (finD l).buf.data.toList = (pr l).2 := by rw [hf]
  have hz : (finD l).buf.size = (pr l).2.length := by rw [list_sz, hb]
  have hg : gtE ((pr l).2 ++ t) = 0 := by
    apply Classical.byContradiction
    intro hn
    rw [pr_no hn] at h2
    exact ht (List.append_eq_nil_iff.1 h2).2
  obtain ⟨hok, -, hsz, hn, hl⟩ := gt_bwd hg
  rw [List.length_append] at hl
  have hpos := hok.1
  unfold needD
  rw [if_neg ho, hb, hz]
  rcases gt_lack h3 with hr | ⟨q2, q3, -⟩
  · rw [if_pos hr]
    omega
  · rw [if_neg (by omega)]
    rw [lenG_app q2] at hn
    omega
/-- what Encode tells: its error, its bytes -/
def enE : List St → Int
  | [] => 0
  | x :: l => if chkS x ≠ 0 then chkS x else if fpE (putT x) ≠ 0 then fpE (putT x) else enE l
def enT (l : List St) : ByteArray := if enE l = 0 then ⟨((l.map putT).flatMap frmB).toArray⟩ else ⟨#[]⟩
theorem put_okF {x : St} (h : chkS x = 0) : okF (putT x) := ⟨(put_size h).1, (put_size h).2⟩
theorem en_ok : ∀ {l : List St}, (∀ x ∈ l, chkS x = 0) → enE l = 0
  | [], _ => rfl
  | x :: l, h => by
    have h1 := h x (List.mem_cons_self ..)
    unfold enE
    rw [if_neg (by rw [h1]; decide), if_neg (by rw [fpE_ok.2 (put_okF h1)]; decide)]
    exact en_ok (fun y hy => h y (List.mem_cons_of_mem _ hy))
theorem en_data {l : List St} (h : ∀ x ∈ l, chkS x = 0) : (enT l).data.toList = (l.map putT).flatMap frmB := by
  unfold enT
  rw [if_pos (en_ok h)]
theorem en_okF {l : List St} (h : ∀ x ∈ l, chkS x = 0) : ∀ s ∈ l.map putT, okF s := by
  intro s hs
  obtain ⟨x, hx, rfl⟩ := List.mem_map.1 hs
  exact put_okF (h x hx)
theorem it_put {x : St} (h : chkS x = 0) : itD (putT x) = (x, 0) := by
  obtain ⟨h1, h2⟩ := read_put h
  unfold itD
  rw [h1, h2]
/-- behind a beginning, and as many bytes more as are needed: the texts that came, and the ones that come now, are the next ones -/
theorem back_step {w : List St} (h : ∀ x ∈ w, chkS x = 0) {l d t : List UInt8} (e : (enT w).data.toList = l ++ (d ++ t)) (hb : (l ++ d).length ≤ 1000000) :
    txS (finD l) d = finD (l ++ d) ∧ (txL (finD l) d).map itD = ((w.drop (pr l).1.length).take (txL (finD l) d).length).map (fun x => (x, 0)) ∧ (pr (l ++ d)).1.length = (pr l).1.length + (txL (finD l) d).length ∧ (pr (l ++ d)).1.length ≤ w.length := by
  obtain ⟨h1, h2⟩ := tx_fin l d hb
  rw [en_data h] at e
  have hk := en_okF h
  have e' : (w.map putT).flatMap frmB = (l ++ d) ++ t := by rw [e, List.append_assoc]
  obtain ⟨-, q2, -⟩ := enc_part hk e'
  have hl : (pr (l ++ d)).1.length ≤ w.length := by
    have := congrArg List.length q2
    rw [List.length_append, List.length_map] at this
    omega
  have hn : (pr (l ++ d)).1.length = (pr l).1.length + (txL (finD l) d).length := by rw [h2, List.length_append]
  refine ⟨h1, ?_, hn, hl⟩
  have hx : txL (finD l) d = ((w.drop (pr l).1.length).take (txL (finD l) d).length).map putT := by
    have q3 := q2
    rw [h2] at q3
    rw [List.map_take, List.map_drop, q3, List.append_assoc, List.drop_left, List.take_left]
  conv => lhs; rw [hx]
  rw [List.map_map]
  apply List.map_congr_left
  intro x hx
  exact it_put (h x (List.mem_of_mem_drop (List.mem_of_mem_take hx)))
theorem back_end {w : List St} (h : ∀ x ∈ w, chkS x = 0) : finD (enT w).data.toList = ⟨⟨#[]⟩, 0, w.length⟩ ∧ (pr (enT w).data.toList).1.length = w.length := by
  have := enc_all (en_okF h)
  rw [en_data h]
  have e1 : (pr ((w.map putT).flatMap frmB)).1.length = w.length := by rw [this, List.length_map]
  have e2 : (pr ((w.map putT).flatMap frmB)).2 = [] := by rw [this]
  refine ⟨?_, e1⟩
  unfold finD
  rw [e2, e1, if_pos gtE_nil]
theorem back_need {w : List St} (h : ∀ x ∈ w, chkS x = 0) {l t : List UInt8} (e : (enT w).data.toList = l ++ t) (ht : t ≠ []) : 1 ≤ needD (finD l) ∧ needD (finD l) ≤ t.length := by
  rw [en_data h] at e
  exact enc_need (en_okF h) e ht
end Go.Proofs.YtackinamkibmlaaDoor
namespace Go.Proofs.YtackinamkibmlaaDoor
open Go.RowKit
set_option linter.unusedVariables false
set_option linter.unusedSimpArgs false

/-- an item: a stanza, and what is wrong with it -/
abbrev It := St × Int
def itC (x : It) : List Value := [.int .u8 (x.1.k.toNat : Int), .string x.1.u, .string x.1.r, .string x.1.m, .int .i64 x.1.s, .int .i64 x.1.p, .int .i64 x.1.c, .int .i64 x.1.n, .int .i64 x.2]
theorem itC_len (x : It) : (itC x).length = 9 := rfl
theorem itC_one (x : It) : ∀ u ∈ itC x, u.oneCell' = true := by
  intro u hu
  simp [itC] at hu
  rcases hu with rfl | rfl | rfl | rfl | rfl | rfl | rfl | rfl | rfl <;> rfl
abbrev itV (x : It) : Value := .agg #[.int .u8 (x.1.k.toNat : Int), .string x.1.u, .string x.1.r, .string x.1.m, .int .i64 x.1.s, .int .i64 x.1.p, .int .i64 x.1.c, .int .i64 x.1.n, .int .i64 x.2]
def sameIt (x y : It) : Bool := sameS x.1 y.1 && decide (x.2 = y.2)
theorem sameIt_iff {x y : It} : sameIt x y = true ↔ x = y := by
  obtain ⟨x, e⟩ := x
  obtain ⟨y, f⟩ := y
  unfold sameIt
  rw [Bool.and_eq_true, sameS_iff, decide_eq_true_eq, Prod.mk.injEq]
abbrev itZ : Value := .agg #[.int .u8 0, .string ⟨#[]⟩, .string ⟨#[]⟩, .string ⟨#[]⟩, .int .i64 0, .int .i64 0, .int .i64 0, .int .i64 0, .int .i64 0]
theorem lays_ref : LaysR 54 31 9 96 itZ := ⟨by kernel_rfl, Tryd.underlying31, rfl, by decide, by decide⟩
theorem lays_own : LaysR 45 26 9 96 itZ := ⟨by kernel_rfl, Tryd.underlying26, rfl, by decide, by decide⟩
set_option maxRecDepth 100000 in
set_option maxHeartbeats 4000000 in
theorem eqin_stz (d : Nat) (x y : St) (W : World) : (Op.equalIn (d + 1 + 1) 38 (stzV x) (stzV y)).run Tryd.prog W = .ok (sameS x y) W := by
  have hS : Tryd.prog.underlying 38 = some (.struct (Tryd.prog.fieldsOf 38)) := by kernel_rfl
  have hp : Tryd.prog.stoodInHeld 38 = false := by kernel_rfl
  have kk : ((x.k.toNat : Int) = (y.k.toNat : Int)) = (x.k = y.k) := propext ⟨fun h => UInt8.toNat_inj.1 (by omega), fun h => by rw [h]⟩
  have kl : ∀ a b : ByteArray, (a.toList = b.toList) = (a = b) := fun a b => propext ⟨list_inj, fun h => by rw [h]⟩
  simp only [stzV]
  rw [run_equalIn_agg W (d + 1) 38 _ _ hS hp]
  simp only [Program.fieldsOf, Tryd.underlying38]
  go_simp
  (try simp only [kk, kl])
  unfold sameS
  by_cases e0 : x.k = y.k
  · rw [if_pos e0, decide_eq_true e0, Bool.true_and]
    by_cases e1 : x.u = y.u
    · rw [if_pos e1, decide_eq_true e1, Bool.true_and]
      by_cases e2 : x.r = y.r
      · rw [if_pos e2, decide_eq_true e2, Bool.true_and]
        by_cases e3 : x.m = y.m
        · rw [if_pos e3, decide_eq_true e3, Bool.true_and]
          by_cases e4 : x.s = y.s
          · rw [if_pos e4, decide_eq_true e4, Bool.true_and]
            by_cases e5 : x.p = y.p
            · rw [if_pos e5, decide_eq_true e5, Bool.true_and]
              by_cases e6 : x.c = y.c
              · rw [if_pos e6, decide_eq_true e6, Bool.true_and]
                by_cases e7 : x.n = y.n
                · rw [if_pos e7, decide_eq_true e7]
                  try rfl
                · rw [if_neg e7, decide_eq_false e7]
                  try rfl
              · rw [if_neg e6, decide_eq_false e6]
                try rfl
            · rw [if_neg e5, decide_eq_false e5]
              try rfl
          · rw [if_neg e4, decide_eq_false e4]
            try rfl
        · rw [if_neg e3, decide_eq_false e3]
          try rfl
      · rw [if_neg e2, decide_eq_false e2]
        try rfl
    · rw [if_neg e1, decide_eq_false e1]
      try rfl
  · rw [if_neg e0, decide_eq_false e0]
    try rfl
set_option maxRecDepth 100000 in
set_option maxHeartbeats 4000000 in
theorem eqin_it (d : Nat) (x y : It) (W : World) : (Op.equalIn (d + 1 + 1 + 1) 54 (itV x) (itV y)).run Tryd.prog W = .ok (sameIt x y) W := by
  have hS : Tryd.prog.underlying 54 = some (.struct (Tryd.prog.fieldsOf 54)) := by kernel_rfl
  have hp : Tryd.prog.stoodInHeld 54 = false := by kernel_rfl
  have hq := eqin_stz d x.1 y.1
  simp only [stzV] at hq
  obtain ⟨⟨k, u, r, m, s, p, c, n⟩, e⟩ := x
  obtain ⟨⟨k', u', r', m', s', p', c', n'⟩, e'⟩ := y
  simp only [itV]
  rw [run_equalIn_agg W (d + 1 + 1) 54 _ _ hS hp]
  clear hS hp
  simp only [Program.fieldsOf, Tryd.underlying54]
  unfold sameIt
  go_simp
  clear hq
  generalize sameS _ _ = q
  cases q <;> by_cases h : e = e' <;> simp [h]
theorem neq_it (x y : It) (W : World) : (binOp .neq 54 (itV x) (itV y)).run Tryd.prog W = .ok (.bool (!sameIt x y)) W := by
  have h := eqin_it 9997 x y W
  simp only [itV] at h ⊢
  rw [run_neq_struct, show (10000 : Nat) = 9997 + 1 + 1 + 1 from rfl, h]
  rfl
/-- are the items the same? -/
def sameIts : List It → List It → Bool
  | [], [] => true
  | x :: l, y :: m => sameIt x y && sameIts l m
  | _, _ => false
theorem sameIts_iff : ∀ {l m : List It}, sameIts l m = true ↔ l = m
  | [], [] => by simp [sameIts]
  | [], _ :: _ => by simp [sameIts]
  | _ :: _, [] => by simp [sameIts]
  | x :: l, y :: m => by
    unfold sameIts
    rw [Bool.and_eq_true, sameIt_iff, sameIts_iff, List.cons.injEq]
set_option maxRecDepth 100000 in
set_option maxHeartbeats 4000000 in
/-- items that are the same -/
theorem sameItems_yes (v1 v2 : Value) (l : List It) (w : World) (h1 : IsR 9 itC w v1 l) (h2 : IsR 9 itC w v2 l) (hl : l.length ≤ 1000000) :
    Calls Tryd.prog 8 #[v1, v2] w fun e w' => e = .returned (.bool true) ∧ Below w.heap.size w w' := by
  obtain ⟨p1, c1, rfl, -, hp1⟩ := h1
  obtain ⟨p2, c2, rfl, -, hp2⟩ := h2
  have H1 := Lib.hid hp1
  have H2 := Lib.hid hp2
  clear hp1 hp2
  have NQ := fun x W => neq_it x x W
  have sr : ∀ x, sameIt x x = true := fun x => sameIt_iff.2 rfl
  simp only [sr, itV] at NQ
  clear sr
  go_enter Tryd.func8, Tryd.ntmps8
  go_wp2
  go_loopw [5] (fun i wr => ∃ k : Nat, i = .int .i64 k ∧ k ≤ l.length ∧ Below w.heap.size w wr) (fun i _ => l.length - (intOf i).toNat)
  case atStart => exact ⟨0, rfl, Nat.zero_le _, Below.refl _ _⟩
  case round =>
    obtain ⟨k, rfl, hk, hB⟩ := hrel
    by_cases hlt : k < l.length
    · have hlt' : (k : Int) < l.length := by omega
      obtain ⟨b1, o1, rfl, g1⟩ := H1.out k hlt
      obtain ⟨b2, o2, rfl, g2⟩ := H2.out k hlt
      obtain ⟨x, hx⟩ : ∃ x, l[k] = x := ⟨_, rfl⟩
      rw [hx] at g1 g2
      have q1 : ∀ c u, (itC x)[c]? = some u → wr.cell? ⟨b1, o1 + k * 9 + c, none⟩ = some u := fun c u hu => (hB.cell (p := ⟨b1, o1 + k * 9 + c, none⟩) (World.block_lt_of_cell? _ _ (g1 c u hu))).trans (g1 c u hu)
      have q2 : ∀ c u, (itC x)[c]? = some u → wr.cell? ⟨b2, o2 + k * 9 + c, none⟩ = some u := fun c u hu => (hB.cell (p := ⟨b2, o2 + k * 9 + c, none⟩) (World.block_lt_of_cell? _ _ (g2 c u hu))).trans (g2 c u hu)
      clear g1 g2 hx
      have e1 : wr.cell? ⟨b1, o1 + k * 9, none⟩ = some (.int .u8 (x.1.k.toNat : Int)) ∧ wr.cell? ⟨b1, o1 + k * 9 + 1, none⟩ = some (.string x.1.u) ∧ wr.cell? ⟨b1, o1 + k * 9 + 2, none⟩ = some (.string x.1.r) ∧ wr.cell? ⟨b1, o1 + k * 9 + 3, none⟩ = some (.string x.1.m) ∧ wr.cell? ⟨b1, o1 + k * 9 + 4, none⟩ = some (.int .i64 x.1.s) ∧ wr.cell? ⟨b1, o1 + k * 9 + 5, none⟩ = some (.int .i64 x.1.p) ∧ wr.cell? ⟨b1, o1 + k * 9 + 6, none⟩ = some (.int .i64 x.1.c) ∧ wr.cell? ⟨b1, o1 + k * 9 + 7, none⟩ = some (.int .i64 x.1.n) ∧ wr.cell? ⟨b1, o1 + k * 9 + 8, none⟩ = some (.int .i64 x.2) := ⟨q1 0 _ rfl, q1 1 _ rfl, q1 2 _ rfl, q1 3 _ rfl, q1 4 _ rfl, q1 5 _ rfl, q1 6 _ rfl, q1 7 _ rfl, q1 8 _ rfl⟩
      have e2 : wr.cell? ⟨b2, o2 + k * 9, none⟩ = some (.int .u8 (x.1.k.toNat : Int)) ∧ wr.cell? ⟨b2, o2 + k * 9 + 1, none⟩ = some (.string x.1.u) ∧ wr.cell? ⟨b2, o2 + k * 9 + 2, none⟩ = some (.string x.1.r) ∧ wr.cell? ⟨b2, o2 + k * 9 + 3, none⟩ = some (.string x.1.m) ∧ wr.cell? ⟨b2, o2 + k * 9 + 4, none⟩ = some (.int .i64 x.1.s) ∧ wr.cell? ⟨b2, o2 + k * 9 + 5, none⟩ = some (.int .i64 x.1.p) ∧ wr.cell? ⟨b2, o2 + k * 9 + 6, none⟩ = some (.int .i64 x.1.c) ∧ wr.cell? ⟨b2, o2 + k * 9 + 7, none⟩ = some (.int .i64 x.1.n) ∧ wr.cell? ⟨b2, o2 + k * 9 + 8, none⟩ = some (.int .i64 x.2) := ⟨q2 0 _ rfl, q2 1 _ rfl, q2 2 _ rfl, q2 3 _ rfl, q2 4 _ rfl, q2 5 _ rfl, q2 6 _ rfl, q2 7 _ rfl, q2 8 _ rfl⟩
      clear q1 q2
      go_wp2
      refine wp_region_held_drew (S := fun W => (W.cell? ⟨b1, o1 + k * 9, none⟩ = some (.int .u8 (x.1.k.toNat : Int)) ∧ W.cell? ⟨b1, o1 + k * 9 + 1, none⟩ = some (.string x.1.u) ∧ W.cell? ⟨b1, o1 + k * 9 + 2, none⟩ = some (.string x.1.r) ∧ W.cell? ⟨b1, o1 + k * 9 + 3, none⟩ = some (.string x.1.m) ∧ W.cell? ⟨b1, o1 + k * 9 + 4, none⟩ = some (.int .i64 x.1.s) ∧ W.cell? ⟨b1, o1 + k * 9 + 5, none⟩ = some (.int .i64 x.1.p) ∧ W.cell? ⟨b1, o1 + k * 9 + 6, none⟩ = some (.int .i64 x.1.c) ∧ W.cell? ⟨b1, o1 + k * 9 + 7, none⟩ = some (.int .i64 x.1.n) ∧ W.cell? ⟨b1, o1 + k * 9 + 8, none⟩ = some (.int .i64 x.2)) ∧ (W.cell? ⟨b2, o2 + k * 9, none⟩ = some (.int .u8 (x.1.k.toNat : Int)) ∧ W.cell? ⟨b2, o2 + k * 9 + 1, none⟩ = some (.string x.1.u) ∧ W.cell? ⟨b2, o2 + k * 9 + 2, none⟩ = some (.string x.1.r) ∧ W.cell? ⟨b2, o2 + k * 9 + 3, none⟩ = some (.string x.1.m) ∧ W.cell? ⟨b2, o2 + k * 9 + 4, none⟩ = some (.int .i64 x.1.s) ∧ W.cell? ⟨b2, o2 + k * 9 + 5, none⟩ = some (.int .i64 x.1.p) ∧ W.cell? ⟨b2, o2 + k * 9 + 6, none⟩ = some (.int .i64 x.1.c) ∧ W.cell? ⟨b2, o2 + k * 9 + 7, none⟩ = some (.int .i64 x.1.n) ∧ W.cell? ⟨b2, o2 + k * 9 + 8, none⟩ = some (.int .i64 x.2))) (by kernel_rfl) (⟨e1, e2⟩) (fun hHeld => ?_)
      (refine wpAnyH_take (i := 0) (v := ?_) rfl (by kernel_rfl) (by kernel_rfl) (by kernel_rfl) (fun _ _ _ h => h) (Or.inl ⟨by rfl, ?_⟩) (by assumption) ?_; rotate_left 1; (focus (intro wz hz; (try dsimp only at hz); (try simp only [List.getElem_toArray, List.getElem_cons_succ, List.getElem_cons_zero]); go_simp; (try (rw [if_neg (by (try simp only [ByteArray.size_append]); omega)])); try (with_reducible rfl); done)))
      try simp only [Act.put, List.getElem_toArray, List.getElem_cons_succ, List.getElem_cons_zero, List.setIfInBounds_toArray, List.set_cons_zero, List.set_cons_succ]
      (refine wpAnyH_take (i := 1) (v := ?_) rfl (by kernel_rfl) (by kernel_rfl) (by kernel_rfl) (fun _ _ _ h => h) (Or.inl ⟨by rfl, ?_⟩) (by assumption) ?_; rotate_left 1; (focus (intro wz hz; (try dsimp only at hz); (try simp only [List.getElem_toArray, List.getElem_cons_succ, List.getElem_cons_zero]); go_simp; (try (rw [if_neg (by (try simp only [ByteArray.size_append]); omega)])); try (with_reducible rfl); done)))
      try simp only [Act.put, List.getElem_toArray, List.getElem_cons_succ, List.getElem_cons_zero, List.setIfInBounds_toArray, List.set_cons_zero, List.set_cons_succ]
      (refine wpAnyH_take (i := 4) (v := ?_) rfl (by kernel_rfl) (by kernel_rfl) (by kernel_rfl) (fun _ _ _ h => h) (Or.inl ⟨by rfl, ?_⟩) (by assumption) ?_; rotate_left 1; (focus (intro wz hz; (try dsimp only at hz); (try simp only [List.getElem_toArray, List.getElem_cons_succ, List.getElem_cons_zero]); go_simp; (try (rw [if_neg (by (try simp only [ByteArray.size_append]); omega)])); try (with_reducible rfl); done)))
      try simp only [Act.put, List.getElem_toArray, List.getElem_cons_succ, List.getElem_cons_zero, List.setIfInBounds_toArray, List.set_cons_zero, List.set_cons_succ]
      (refine wpAnyH_take (i := 5) (v := ?_) rfl (by kernel_rfl) (by kernel_rfl) (by kernel_rfl) (fun _ _ _ h => h) (Or.inl ⟨by rfl, ?_⟩) (by assumption) ?_; rotate_left 1; (focus (intro wz hz; (try dsimp only at hz); (try simp only [List.getElem_toArray, List.getElem_cons_succ, List.getElem_cons_zero]); go_simp; (try (rw [if_neg (by (try simp only [ByteArray.size_append]); omega)])); try (with_reducible rfl); done)))
      try simp only [Act.put, List.getElem_toArray, List.getElem_cons_succ, List.getElem_cons_zero, List.setIfInBounds_toArray, List.set_cons_zero, List.set_cons_succ]
      (refine wpAnyH_take (i := 2) (v := ?_) rfl (by kernel_rfl) (by kernel_rfl) (by kernel_rfl) (fun _ _ _ h => h) (Or.inl ⟨by rfl, ?_⟩) (by assumption) ?_; rotate_left 1; (focus (intro wz hz; (try dsimp only at hz); (try simp only [List.getElem_toArray, List.getElem_cons_succ, List.getElem_cons_zero]); go_simp; (try (rw [if_neg (by (try simp only [ByteArray.size_append]); omega)])); try (with_reducible rfl); done)))
      try simp only [Act.put, List.getElem_toArray, List.getElem_cons_succ, List.getElem_cons_zero, List.setIfInBounds_toArray, List.set_cons_zero, List.set_cons_succ]
      (refine wpAnyH_take (i := 6) (v := ?_) rfl (by kernel_rfl) (by kernel_rfl) (by kernel_rfl) (fun _ _ _ h => h) (Or.inl ⟨by rfl, ?_⟩) (by assumption) ?_; rotate_left 1; (focus (intro wz hz; (try dsimp only at hz); (try simp only [List.getElem_toArray, List.getElem_cons_succ, List.getElem_cons_zero]); go_simp; (try (rw [if_neg (by (try simp only [ByteArray.size_append]); omega)])); try (with_reducible rfl); done)))
      try simp only [Act.put, List.getElem_toArray, List.getElem_cons_succ, List.getElem_cons_zero, List.setIfInBounds_toArray, List.set_cons_zero, List.set_cons_succ]
      (refine wpAnyH_take (i := 3) (v := ?_) rfl (by kernel_rfl) (by kernel_rfl) (by kernel_rfl) (fun _ _ _ h => h) (Or.inl ⟨by rfl, ?_⟩) (by assumption) ?_; rotate_left 1; (focus (intro wz hz; (try dsimp only at hz); (try simp only [List.getElem_toArray, List.getElem_cons_succ, List.getElem_cons_zero]); go_simp; (try (rw [if_neg (by (try simp only [ByteArray.size_append]); omega)])); try (with_reducible rfl); done)))
      try simp only [Act.put, List.getElem_toArray, List.getElem_cons_succ, List.getElem_cons_zero, List.setIfInBounds_toArray, List.set_cons_zero, List.set_cons_succ]
      (refine wpAnyH_take (i := 7) (v := ?_) rfl (by kernel_rfl) (by kernel_rfl) (by kernel_rfl) (fun _ _ _ h => h) (Or.inl ⟨by rfl, ?_⟩) (by assumption) ?_; rotate_left 1; (focus (intro wz hz; (try dsimp only at hz); (try simp only [List.getElem_toArray, List.getElem_cons_succ, List.getElem_cons_zero]); go_simp; (try (rw [if_neg (by (try simp only [ByteArray.size_append]); omega)])); try (with_reducible rfl); done)))
      try simp only [Act.put, List.getElem_toArray, List.getElem_cons_succ, List.getElem_cons_zero, List.setIfInBounds_toArray, List.set_cons_zero, List.set_cons_succ]
      (refine wpAnyH_take (i := 8) (v := ?_) rfl (by kernel_rfl) (by kernel_rfl) (by kernel_rfl) (fun _ _ _ h => h) (Or.inl ⟨by rfl, ?_⟩) (by assumption) ?_; rotate_left 1; (focus (intro wz hz; (try dsimp only at hz); (try simp only [List.getElem_toArray, List.getElem_cons_succ, List.getElem_cons_zero]); go_simp; (try (rw [if_neg (by (try simp only [ByteArray.size_append]); omega)])); try (with_reducible rfl); done)))
      try simp only [Act.put, List.getElem_toArray, List.getElem_cons_succ, List.getElem_cons_zero, List.setIfInBounds_toArray, List.set_cons_zero, List.set_cons_succ]
      refine wpAnyH_done (by kernel_rfl) ?_ _
      go_wp2
      go_roundw
      case rel => exact ⟨k + 1, by go_num, by omega, by (repeat (first | (with_reducible exact Below.refl _ _) | ((with_reducible refine below_alloc ?_ ?_ _); · (first | omega | (simp; done) | (simp; omega))) | ((with_reducible refine below_setCell ?_ ?_ _); · (first | omega | (simp; done) | (simp; omega))) | (with_reducible refine Below.drew ?_) | (with_reducible refine below_drewN ?_ _) | ((with_reducible refine below_call (by assumption) ?_ ?_); · (first | omega | (simp; done) | (simp; omega)))))⟩
      case measure => simp [intOf]; omega
    · obtain rfl : k = l.length := by omega
      go_wp2
      go_ret
      exact ⟨rfl, hB⟩
set_option maxRecDepth 100000 in
set_option maxHeartbeats 4000000 in
/-- the document's items -/
theorem items_any (v : Value) (l : List It) (w : World) (h1 : IsR 9 itC w v l) (hl : l.length ≤ 1000000) :
    Calls Tryd.prog 9 #[v] w fun e w' => ∃ v', e = .returned v' ∧ OwnR 54 9 itC w' w.heap.size v' l ∧ Below w.heap.size w w' := by
  obtain ⟨p1, c1, rfl, -, hp1⟩ := h1
  have H1 := Lib.hid hp1
  clear hp1
  go_enter Tryd.func9, Tryd.ntmps9
  go_wp2
  go_loopw [3, 4] (fun o i wr => ∃ k : Nat, i = .int .i64 k ∧ k ≤ l.length ∧ OwnR 54 9 itC wr w.heap.size o (l.take k) ∧ Below w.heap.size w wr) (fun _ i _ => l.length - (intOf i).toNat)
  case atStart => exact ⟨0, rfl, Nat.zero_le _, OwnR.nil _ _ _ _ _, Below.refl _ _⟩
  case round =>
    obtain ⟨k, rfl, hk, ho, hB⟩ := hrel
    have HO := Lib.hid ho
    have hz := hB.size
    obtain ⟨ao, cp, hve⟩ := ho.form
    rw [List.length_take, Nat.min_eq_left hk] at hve
    subst hve
    clear ho
    by_cases hlt : k < l.length
    · have hlt' : (k : Int) < l.length := by omega
      obtain ⟨b1, o1, rfl, g1⟩ := H1.out k hlt
      have HN := Lib.hid (List.take_succ_eq_append_getElem hlt)
      obtain ⟨x, hx⟩ : ∃ x, l[k] = x := ⟨_, rfl⟩
      rw [hx] at g1 HN
      have hout : Hid (∀ W, Below w.heap.size w W → W.cell? ⟨b1, o1 + k * 9, none⟩ = some (.int .u8 (x.1.k.toNat : Int)) ∧ W.cell? ⟨b1, o1 + k * 9 + 1, none⟩ = some (.string x.1.u) ∧ W.cell? ⟨b1, o1 + k * 9 + 2, none⟩ = some (.string x.1.r) ∧ W.cell? ⟨b1, o1 + k * 9 + 3, none⟩ = some (.string x.1.m) ∧ W.cell? ⟨b1, o1 + k * 9 + 4, none⟩ = some (.int .i64 x.1.s) ∧ W.cell? ⟨b1, o1 + k * 9 + 5, none⟩ = some (.int .i64 x.1.p) ∧ W.cell? ⟨b1, o1 + k * 9 + 6, none⟩ = some (.int .i64 x.1.c) ∧ W.cell? ⟨b1, o1 + k * 9 + 7, none⟩ = some (.int .i64 x.1.n) ∧ W.cell? ⟨b1, o1 + k * 9 + 8, none⟩ = some (.int .i64 x.2)) := Lib.hid (fun W hb => by
        have q1 : ∀ c u, (itC x)[c]? = some u → W.cell? ⟨b1, o1 + k * 9 + c, none⟩ = some u := fun c u hu => (hb.cell (p := ⟨b1, o1 + k * 9 + c, none⟩) (World.block_lt_of_cell? _ _ (g1 c u hu))).trans (g1 c u hu)
        exact ⟨q1 0 _ rfl, q1 1 _ rfl, q1 2 _ rfl, q1 3 _ rfl, q1 4 _ rfl, q1 5 _ rfl, q1 6 _ rfl, q1 7 _ rfl, q1 8 _ rfl⟩)
      clear g1 hx
      go_wp2
      refine wp_region_held_drew (S := fun W => W.cell? ⟨b1, o1 + k * 9, none⟩ = some (.int .u8 (x.1.k.toNat : Int)) ∧ W.cell? ⟨b1, o1 + k * 9 + 1, none⟩ = some (.string x.1.u) ∧ W.cell? ⟨b1, o1 + k * 9 + 2, none⟩ = some (.string x.1.r) ∧ W.cell? ⟨b1, o1 + k * 9 + 3, none⟩ = some (.string x.1.m) ∧ W.cell? ⟨b1, o1 + k * 9 + 4, none⟩ = some (.int .i64 x.1.s) ∧ W.cell? ⟨b1, o1 + k * 9 + 5, none⟩ = some (.int .i64 x.1.p) ∧ W.cell? ⟨b1, o1 + k * 9 + 6, none⟩ = some (.int .i64 x.1.c) ∧ W.cell? ⟨b1, o1 + k * 9 + 7, none⟩ = some (.int .i64 x.1.n) ∧ W.cell? ⟨b1, o1 + k * 9 + 8, none⟩ = some (.int .i64 x.2)) (by kernel_rfl) (hout.out _ (Below.drew hB)) (fun hHeld => ?_)
      (refine wpAnyH_take (i := 0) (v := ?_) rfl (by kernel_rfl) (by kernel_rfl) (by kernel_rfl) (fun _ _ _ h => h) (Or.inl ⟨by rfl, ?_⟩) (by assumption) ?_; rotate_left 1; (focus (intro wz hz; (try dsimp only at hz); (try simp only [List.getElem_toArray, List.getElem_cons_succ, List.getElem_cons_zero]); go_simp; (try (rw [if_neg (by (try simp only [ByteArray.size_append]); omega)])); try (with_reducible rfl); done)))
      try simp only [Act.put, List.getElem_toArray, List.getElem_cons_succ, List.getElem_cons_zero, List.setIfInBounds_toArray, List.set_cons_zero, List.set_cons_succ]
      (refine wpAnyH_take (i := 1) (v := ?_) rfl (by kernel_rfl) (by kernel_rfl) (by kernel_rfl) (fun _ _ _ h => h) (Or.inl ⟨by rfl, ?_⟩) (by assumption) ?_; rotate_left 1; (focus (intro wz hz; (try dsimp only at hz); (try simp only [List.getElem_toArray, List.getElem_cons_succ, List.getElem_cons_zero]); go_simp; (try (rw [if_neg (by (try simp only [ByteArray.size_append]); omega)])); try (with_reducible rfl); done)))
      try simp only [Act.put, List.getElem_toArray, List.getElem_cons_succ, List.getElem_cons_zero, List.setIfInBounds_toArray, List.set_cons_zero, List.set_cons_succ]
      (refine wpAnyH_take (i := 2) (v := ?_) rfl (by kernel_rfl) (by kernel_rfl) (by kernel_rfl) (fun _ _ _ h => h) (Or.inl ⟨by rfl, ?_⟩) (by assumption) ?_; rotate_left 1; (focus (intro wz hz; (try dsimp only at hz); (try simp only [List.getElem_toArray, List.getElem_cons_succ, List.getElem_cons_zero]); go_simp; (try (rw [if_neg (by (try simp only [ByteArray.size_append]); omega)])); try (with_reducible rfl); done)))
      try simp only [Act.put, List.getElem_toArray, List.getElem_cons_succ, List.getElem_cons_zero, List.setIfInBounds_toArray, List.set_cons_zero, List.set_cons_succ]
      (refine wpAnyH_take (i := 6) (v := ?_) rfl (by kernel_rfl) (by kernel_rfl) (by kernel_rfl) (fun _ _ _ h => h) (Or.inl ⟨by rfl, ?_⟩) (by assumption) ?_; rotate_left 1; (focus (intro wz hz; (try dsimp only at hz); (try simp only [List.getElem_toArray, List.getElem_cons_succ, List.getElem_cons_zero]); go_simp; (try (rw [if_neg (by (try simp only [ByteArray.size_append]); omega)])); try (with_reducible rfl); done)))
      try simp only [Act.put, List.getElem_toArray, List.getElem_cons_succ, List.getElem_cons_zero, List.setIfInBounds_toArray, List.set_cons_zero, List.set_cons_succ]
      (refine wpAnyH_take (i := 7) (v := ?_) rfl (by kernel_rfl) (by kernel_rfl) (by kernel_rfl) (fun _ _ _ h => h) (Or.inl ⟨by rfl, ?_⟩) (by assumption) ?_; rotate_left 1; (focus (intro wz hz; (try dsimp only at hz); (try simp only [List.getElem_toArray, List.getElem_cons_succ, List.getElem_cons_zero]); go_simp; (try (rw [if_neg (by (try simp only [ByteArray.size_append]); omega)])); try (with_reducible rfl); done)))
      try simp only [Act.put, List.getElem_toArray, List.getElem_cons_succ, List.getElem_cons_zero, List.setIfInBounds_toArray, List.set_cons_zero, List.set_cons_succ]
      (refine wpAnyH_take (i := 3) (v := ?_) rfl (by kernel_rfl) (by kernel_rfl) (by kernel_rfl) (fun _ _ _ h => h) (Or.inl ⟨by rfl, ?_⟩) (by assumption) ?_; rotate_left 1; (focus (intro wz hz; (try dsimp only at hz); (try simp only [List.getElem_toArray, List.getElem_cons_succ, List.getElem_cons_zero]); go_simp; (try (rw [if_neg (by (try simp only [ByteArray.size_append]); omega)])); try (with_reducible rfl); done)))
      try simp only [Act.put, List.getElem_toArray, List.getElem_cons_succ, List.getElem_cons_zero, List.setIfInBounds_toArray, List.set_cons_zero, List.set_cons_succ]
      (refine wpAnyH_take (i := 8) (v := ?_) rfl (by kernel_rfl) (by kernel_rfl) (by kernel_rfl) (fun _ _ _ h => h) (Or.inl ⟨by rfl, ?_⟩) (by assumption) ?_; rotate_left 1; (focus (intro wz hz; (try dsimp only at hz); (try simp only [List.getElem_toArray, List.getElem_cons_succ, List.getElem_cons_zero]); go_simp; (try (rw [if_neg (by (try simp only [ByteArray.size_append]); omega)])); try (with_reducible rfl); done)))
      try simp only [Act.put, List.getElem_toArray, List.getElem_cons_succ, List.getElem_cons_zero, List.setIfInBounds_toArray, List.set_cons_zero, List.set_cons_succ]
      (refine wpAnyH_take (i := 4) (v := ?_) rfl (by kernel_rfl) (by kernel_rfl) (by kernel_rfl) (fun _ _ _ h => h) (Or.inl ⟨by rfl, ?_⟩) (by assumption) ?_; rotate_left 1; (focus (intro wz hz; (try dsimp only at hz); (try simp only [List.getElem_toArray, List.getElem_cons_succ, List.getElem_cons_zero]); go_simp; (try (rw [if_neg (by (try simp only [ByteArray.size_append]); omega)])); try (with_reducible rfl); done)))
      try simp only [Act.put, List.getElem_toArray, List.getElem_cons_succ, List.getElem_cons_zero, List.setIfInBounds_toArray, List.set_cons_zero, List.set_cons_succ]
      (refine wpAnyH_take (i := 9) (v := ?_) rfl (by kernel_rfl) (by kernel_rfl) (by kernel_rfl) (fun _ _ _ h => h) (Or.inl ⟨by rfl, ?_⟩) (by assumption) ?_; rotate_left 1; (focus (intro wz hz; (try dsimp only at hz); (try simp only [List.getElem_toArray, List.getElem_cons_succ, List.getElem_cons_zero]); go_simp; (try (rw [if_neg (by (try simp only [ByteArray.size_append]); omega)])); try (with_reducible rfl); done)))
      try simp only [Act.put, List.getElem_toArray, List.getElem_cons_succ, List.getElem_cons_zero, List.setIfInBounds_toArray, List.set_cons_zero, List.set_cons_succ]
      (refine wpAnyH_take (i := 5) (v := ?_) rfl (by kernel_rfl) (by kernel_rfl) (by kernel_rfl) (fun _ _ _ h => h) (Or.inl ⟨by rfl, ?_⟩) (by assumption) ?_; rotate_left 1; (focus (intro wz hz; (try dsimp only at hz); (try simp only [List.getElem_toArray, List.getElem_cons_succ, List.getElem_cons_zero]); go_simp; (try (rw [if_neg (by (try simp only [ByteArray.size_append]); omega)])); try (with_reducible rfl); done)))
      try simp only [Act.put, List.getElem_toArray, List.getElem_cons_succ, List.getElem_cons_zero, List.setIfInBounds_toArray, List.set_cons_zero, List.set_cons_succ]
      (refine wpAnyH_take (i := 10) (v := ?_) rfl (by kernel_rfl) (by kernel_rfl) (by kernel_rfl) (fun _ _ _ h => h) (Or.inl ⟨by rfl, ?_⟩) (by assumption) ?_; rotate_left 1; (focus (intro wz hz; (try dsimp only at hz); (try simp only [List.getElem_toArray, List.getElem_cons_succ, List.getElem_cons_zero]); go_simp; (try (rw [if_neg (by (try simp only [ByteArray.size_append]); omega)])); try (with_reducible rfl); done)))
      try simp only [Act.put, List.getElem_toArray, List.getElem_cons_succ, List.getElem_cons_zero, List.setIfInBounds_toArray, List.set_cons_zero, List.set_cons_succ]
      (refine wpAnyH_take (i := 11) (v := ?_) rfl (by kernel_rfl) (by kernel_rfl) (by kernel_rfl) (fun _ _ _ h => h) (Or.inl ⟨by rfl, ?_⟩) (by assumption) ?_; rotate_left 1; (focus (intro wz hz; (try dsimp only at hz); (try simp only [List.getElem_toArray, List.getElem_cons_succ, List.getElem_cons_zero]); go_simp; (try (rw [if_neg (by (try simp only [ByteArray.size_append]); omega)])); try (with_reducible rfl); done)))
      try simp only [Act.put, List.getElem_toArray, List.getElem_cons_succ, List.getElem_cons_zero, List.setIfInBounds_toArray, List.set_cons_zero, List.set_cons_succ]
      (refine wpAnyH_ready (rs := [12]) (by kernel_rfl) (by simp) ?_; refine AllReadyH.cons rfl (fun K hK => ?_) AllReadyH.nil; (try simp only [List.getElem_toArray, List.getElem_cons_succ, List.getElem_cons_zero]); skip; go_simp; refine hK.out _ _ (hout.out _ (Below.drew (hB.alloc hz _))) (fun hHeld => ?_); clear hK K)
      try simp only [Act.put, List.getElem_toArray, List.getElem_cons_succ, List.getElem_cons_zero, List.setIfInBounds_toArray, List.set_cons_zero, List.set_cons_succ]
      (refine wpAnyH_ready (rs := [13]) (by kernel_rfl) (by simp) ?_; refine AllReadyH.cons rfl (fun K hK => ?_) AllReadyH.nil; (try simp only [List.getElem_toArray, List.getElem_cons_succ, List.getElem_cons_zero]); rw [if_pos (by rfl)]; refine wp_app_row lays_ref itC_len itC_one (.tmp 11) (.tmp 23) rfl w.heap.size (l.take k) [x] (.slice ao k cp) _ (by simp [Act.eval, Act.put]) (HO.out.alloc _) (by simp [Act.eval, Act.put]) (isR_one wr x _ 1 rfl rfl) (by rw [List.length_take]; simp; omega) (by simp; omega) ?_; intro v5 w5 ho5 hb5 _; have B5 : Below w.heap.size w w5 := (Below.drew (hB.alloc hz _)).trans hb5; clear hHeld; refine hK.out _ _ (hout.out _ B5) (fun hHeld => ?_); clear hK K)
      try simp only [Act.put, List.getElem_toArray, List.getElem_cons_succ, List.getElem_cons_zero, List.setIfInBounds_toArray, List.set_cons_zero, List.set_cons_succ]
      (refine wpAnyH_take (i := 14) (v := ?_) rfl (by kernel_rfl) (by kernel_rfl) (by kernel_rfl) (fun _ _ _ h => h) (Or.inl ⟨by rfl, ?_⟩) (by assumption) ?_; rotate_left 1; (focus (intro wz hz; (try dsimp only at hz); (try simp only [List.getElem_toArray, List.getElem_cons_succ, List.getElem_cons_zero]); go_simp; (try (rw [if_neg (by (try simp only [ByteArray.size_append]); omega)])); try (with_reducible rfl); done)))
      try simp only [Act.put, List.getElem_toArray, List.getElem_cons_succ, List.getElem_cons_zero, List.setIfInBounds_toArray, List.set_cons_zero, List.set_cons_succ]
      refine wpAnyH_done (by kernel_rfl) ?_ _
      go_wp2
      go_roundw
      case rel => exact ⟨k + 1, by go_num, by omega, by rw [HN.out]; exact ho5, B5⟩
      case measure => simp [intOf]; omega
    · obtain rfl : k = l.length := by omega
      have HO2 := HO.out
      rw [List.take_length] at HO2
      have HO3 := Lib.hid HO2
      clear HO2
      go_wp2
      go_ret
      exact ⟨_, rfl, HO3.out, hB⟩
end Go.Proofs.YtackinamkibmlaaDoor
namespace Go.Proofs.YtackinamkibmlaaDoor
open Go.RowKit
set_option linter.unusedVariables false
set_option linter.unusedSimpArgs false

instance : DecidableEq Ds := fun x y =>
  if h : x.buf = y.buf ∧ x.bad = y.bad ∧ x.seen = y.seen then .isTrue (by obtain ⟨a, b, c⟩ := x; obtain ⟨d, e, f⟩ := y; simp at h; obtain ⟨rfl, rfl, rfl⟩ := h; rfl) else .isFalse (fun e => h (by rw [e]; exact ⟨rfl, rfl, rfl⟩))
abbrev dsV (s : Ds) : Value := .agg #[.string s.buf, .int .i64 s.bad, .int .i64 s.seen]
def stC (x : St) : List Value := [.int .u8 (x.k.toNat : Int), .string x.u, .string x.r, .string x.m, .int .i64 x.s, .int .i64 x.p, .int .i64 x.c, .int .i64 x.n]
theorem stC_len (x : St) : (stC x).length = 8 := rfl
theorem stC_one (x : St) : ∀ u ∈ stC x, u.oneCell' = true := by
  intro u hu
  simp [stC] at hu
  rcases hu with rfl | rfl | rfl | rfl | rfl | rfl | rfl | rfl <;> rfl
abbrev stZ : Value := .agg #[.int .u8 0, .string ⟨#[]⟩, .string ⟨#[]⟩, .string ⟨#[]⟩, .int .i64 0, .int .i64 0, .int .i64 0, .int .i64 0]
theorem lays_stz : LaysR 40 35 8 88 stZ := ⟨by kernel_rfl, Tryd.underlying35, rfl, by decide, by decide⟩
theorem finD_size (l : List UInt8) : (finD l).buf.size ≤ l.length := by
  have h := pr_len l
  unfold finD
  split
  · rw [list_sz]
    show (pr l).2.length ≤ _
    omega
  · exact Nat.zero_le _
set_option maxRecDepth 100000 in
set_option maxHeartbeats 4000000 in
/-- two states are held together -/
theorem eq_dst (x y : Ds) (W : World) : (binOp .eql 25 (dsV x) (dsV y)).run Tryd.prog W = .ok (.bool (decide (x.buf = y.buf ∧ x.bad = y.bad ∧ x.seen = y.seen))) W := by
  have hS : Tryd.prog.underlying 25 = some (.struct (Tryd.prog.fieldsOf 25)) := by kernel_rfl
  have hp : Tryd.prog.stoodInHeld 25 = false := by kernel_rfl
  have kl : ∀ a b : ByteArray, (a.toList = b.toList) = (a = b) := fun a b => propext ⟨list_inj, fun h => by rw [h]⟩
  simp only [dsV]
  rw [run_eql_struct, show (10000 : Nat) = 9999 + 1 from rfl, run_equalIn_agg W 9999 25 _ _ hS hp]
  simp only [Program.fieldsOf, Tryd.underlying25]
  go_simp
  (try simp only [kl])
  by_cases e0 : x.buf = y.buf <;> by_cases e1 : x.bad = y.bad <;> by_cases e2 : x.seen = y.seen <;> simp [e0, e1, e2]
theorem stC_at {W : World} {b o : Nat} {x : St} (h : ∀ c u, (stC x)[c]? = some u → W.cell? ⟨b, o + c, none⟩ = some u) : W.cell? ⟨b, o, none⟩ = some (.int .u8 (x.k.toNat : Int)) ∧ W.cell? ⟨b, o + 1, none⟩ = some (.string x.u) ∧ W.cell? ⟨b, o + 2, none⟩ = some (.string x.r) ∧ W.cell? ⟨b, o + 3, none⟩ = some (.string x.m) ∧ W.cell? ⟨b, o + 4, none⟩ = some (.int .i64 x.s) ∧ W.cell? ⟨b, o + 5, none⟩ = some (.int .i64 x.p) ∧ W.cell? ⟨b, o + 6, none⟩ = some (.int .i64 x.c) ∧ W.cell? ⟨b, o + 7, none⟩ = some (.int .i64 x.n) :=
  ⟨h 0 _ rfl, h 1 _ rfl, h 2 _ rfl, h 3 _ rfl, h 4 _ rfl, h 5 _ rfl, h 6 _ rfl, h 7 _ rfl⟩
theorem itC_at {W : World} {b o : Nat} {x : It} (h : ∀ c u, (itC x)[c]? = some u → W.cell? ⟨b, o + c, none⟩ = some u) : W.cell? ⟨b, o, none⟩ = some (.int .u8 (x.1.k.toNat : Int)) ∧ W.cell? ⟨b, o + 1, none⟩ = some (.string x.1.u) ∧ W.cell? ⟨b, o + 2, none⟩ = some (.string x.1.r) ∧ W.cell? ⟨b, o + 3, none⟩ = some (.string x.1.m) ∧ W.cell? ⟨b, o + 4, none⟩ = some (.int .i64 x.1.s) ∧ W.cell? ⟨b, o + 5, none⟩ = some (.int .i64 x.1.p) ∧ W.cell? ⟨b, o + 6, none⟩ = some (.int .i64 x.1.c) ∧ W.cell? ⟨b, o + 7, none⟩ = some (.int .i64 x.1.n) ∧ W.cell? ⟨b, o + 8, none⟩ = some (.int .i64 x.2) :=
  ⟨h 0 _ rfl, h 1 _ rfl, h 2 _ rfl, h 3 _ rfl, h 4 _ rfl, h 5 _ rfl, h 6 _ rfl, h 7 _ rfl, h 8 _ rfl⟩
end Go.Proofs.YtackinamkibmlaaDoor
