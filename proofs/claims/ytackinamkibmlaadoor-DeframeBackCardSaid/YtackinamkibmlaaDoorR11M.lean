/- Layer 11, the mathematics: frames; what is joined is told, what is told is joined; how many fit. -/
import Derived.Test.YtackinamkibmlaaDoorKitS
namespace Go.Proofs.YtackinamkibmlaaDoor
open Go.RowKit
set_option linter.unusedVariables false
set_option linter.unusedSimpArgs false

/-- what is wrong with a text that is to be framed -/
def fpE (s : ByteArray) : Int := if s.size = 0 then 4 else if 128 < s.size then 5 else 0
def okF (s : ByteArray) : Prop := 0 < s.size ∧ s.size ≤ 128
/-- a frame's bytes -/
def frmB (s : ByteArray) : List UInt8 := UInt8.ofNat (s.size / 256) :: UInt8.ofNat (s.size % 256) :: s.data.toList
def fpT (s : ByteArray) : ByteArray := if fpE s = 0 then ⟨(frmB s).toArray⟩ else ⟨#[]⟩
def fsz (s : ByteArray) : Nat := (fpT s).size
/-- the length that stands ahead -/
def lenG (l : List UInt8) : Nat := 256 * (l.getD 0 0).toNat + (l.getD 1 0).toNat
def gtE (l : List UInt8) : Int := if l.length < 2 then 3 else if lenG l = 0 then 4 else if 128 < lenG l then 5 else if l.length - 2 < lenG l then 3 else 0
def gtS (l : List UInt8) : ByteArray := if gtE l = 0 then ⟨((l.drop 2).take (lenG l)).toArray⟩ else ⟨#[]⟩
def gtN (l : List UInt8) : Nat := if gtE l = 0 then 2 + lenG l else 0
theorem list_sz (s : ByteArray) : s.size = s.data.toList.length := by simp
theorem fpE_ok {s : ByteArray} : fpE s = 0 ↔ okF s := by
  unfold fpE okF
  by_cases h : s.size = 0
  · rw [if_pos h]
    constructor
    · intro h; cases h
    · intro h; omega
  · rw [if_neg h]
    by_cases h2 : 128 < s.size
    · rw [if_pos h2]
      constructor
      · intro h; cases h
      · intro h; omega
    · rw [if_neg h2]
      constructor
      · intro _; omega
      · intro _; rfl
theorem fpT_ok {s : ByteArray} (h : okF s) : fpT s = ⟨(frmB s).toArray⟩ := if_pos (fpE_ok.2 h)
theorem fpT_no {s : ByteArray} (h : ¬ okF s) : fpT s = ⟨#[]⟩ := if_neg (fun e => h (fpE_ok.1 e))
theorem frmB_len (s : ByteArray) : (frmB s).length = s.size + 2 := by
  unfold frmB
  simp
theorem fsz_ok {s : ByteArray} (h : okF s) : fsz s = s.size + 2 := by
  unfold fsz
  rw [fpT_ok h, list_sz]
  exact frmB_len s
theorem fsz_no {s : ByteArray} (h : ¬ okF s) : fsz s = 0 := by
  unfold fsz
  rw [fpT_no h]
  rfl
theorem fsz_pos {s : ByteArray} : 0 < fsz s ↔ okF s := by
  constructor
  · intro h
    apply Classical.byContradiction
    intro hn
    rw [fsz_no hn] at h
    omega
  · intro h
    rw [fsz_ok h]
    omega
theorem fsz_le (s : ByteArray) : fsz s ≤ 130 := by
  by_cases h : okF s
  · rw [fsz_ok h]
    have := h.2
    omega
  · rw [fsz_no h]
    omega
theorem len_frm {s : ByteArray} (h : okF s) (r : List UInt8) : lenG (frmB s ++ r) = s.size := by
  unfold lenG frmB
  have h2 := h.2
  simp
  omega
theorem gt_frm {s : ByteArray} (h : okF s) (r : List UInt8) : gtE (frmB s ++ r) = 0 ∧ gtS (frmB s ++ r) = s ∧ gtN (frmB s ++ r) = s.size + 2 ∧ (frmB s ++ r).drop (gtN (frmB s ++ r)) = r := by
  have hl := len_frm h r
  have hlen : (frmB s ++ r).length = s.size + 2 + r.length := by rw [List.length_append, frmB_len]
  have h1 := h.1
  have h2 := h.2
  have he : gtE (frmB s ++ r) = 0 := by
    unfold gtE
    rw [hl, hlen, if_neg (by omega), if_neg (by omega), if_neg (by omega), if_neg (by omega)]
  have hn : gtN (frmB s ++ r) = s.size + 2 := by
    unfold gtN
    rw [if_pos he, hl]
    omega
  refine ⟨he, ?_, hn, ?_⟩
  · unfold gtS
    rw [if_pos he, hl]
    apply ByteArray.ext
    apply Array.toList_inj.1
    show ((s.data.toList ++ r).take s.size) = s.data.toList
    rw [list_sz s]
    simp
  · rw [hn, ← frmB_len s]
    simp
theorem gt_bwd {l : List UInt8} (h : gtE l = 0) : okF (gtS l) ∧ l = frmB (gtS l) ++ l.drop (gtN l) ∧ (gtS l).size = lenG l ∧ gtN l = lenG l + 2 ∧ gtN l ≤ l.length := by
  have hS : gtS l = ⟨((l.drop 2).take (lenG l)).toArray⟩ := if_pos h
  have hN : gtN l = 2 + lenG l := if_pos h
  unfold gtE at h
  by_cases h1 : l.length < 2
  · rw [if_pos h1] at h; cases h
  rw [if_neg h1] at h
  by_cases h2 : lenG l = 0
  · rw [if_pos h2] at h; cases h
  rw [if_neg h2] at h
  by_cases h3 : 128 < lenG l
  · rw [if_pos h3] at h; cases h
  rw [if_neg h3] at h
  by_cases h4 : l.length - 2 < lenG l
  · rw [if_pos h4] at h; cases h
  have hz : (gtS l).size = lenG l := by
    rw [hS, list_sz]
    simp
    omega
  refine ⟨⟨by omega, by omega⟩, ?_, hz, by omega, by omega⟩
  match l, h1 with
  | [], h1 => exact absurd (by simp) h1
  | [a], h1 => exact absurd (by simp) h1
  | a :: b :: t, _ =>
    have hlen : lenG (a :: b :: t) = 256 * a.toNat + b.toNat := rfl
    have hb := UInt8.toNat_lt b
    have ha := UInt8.toNat_lt a
    have e1 : UInt8.ofNat (lenG (a :: b :: t) / 256) = a := by
      rw [hlen, show (256 * a.toNat + b.toNat) / 256 = a.toNat by omega]
      exact UInt8.ofNat_toNat
    have e2 : UInt8.ofNat (lenG (a :: b :: t) % 256) = b := by
      rw [hlen, show (256 * a.toNat + b.toNat) % 256 = b.toNat by omega]
      exact UInt8.ofNat_toNat
    unfold frmB
    rw [hz, e1, e2, hN, hS]
    show a :: b :: t = a :: b :: (t.take (lenG (a :: b :: t)) ++ (a :: b :: t).drop (2 + lenG (a :: b :: t)))
    rw [Nat.add_comm 2, List.drop_succ_cons, List.drop_succ_cons, List.take_append_drop]
/-- the frames that bytes begin with, and what is left behind them -/
def prG : Nat → List UInt8 → List ByteArray × List UInt8
  | 0, l => ([], l)
  | f + 1, l => if gtE l = 0 then (gtS l :: (prG f (l.drop (gtN l))).1, (prG f (l.drop (gtN l))).2) else ([], l)
def pr (l : List UInt8) : List ByteArray × List UInt8 := prG l.length l
theorem prG_fuel : ∀ (f g : Nat) (l : List UInt8), l.length ≤ f → l.length ≤ g → prG f l = prG g l
  | 0, 0, _, _, _ => rfl
  | 0, g + 1, l, h, _ => by
    have e : gtE l ≠ 0 := by
      obtain rfl := List.eq_nil_of_length_eq_zero (Nat.le_zero.1 h)
      decide
    simp [prG, e]
  | f + 1, 0, l, _, h => by
    have e : gtE l ≠ 0 := by
      obtain rfl := List.eq_nil_of_length_eq_zero (Nat.le_zero.1 h)
      decide
    simp [prG, e]
  | f + 1, g + 1, l, hf, hg => by
    by_cases h : gtE l = 0
    · obtain ⟨_, _, _, h4, h5⟩ := gt_bwd h
      have hd : (l.drop (gtN l)).length = l.length - gtN l := List.length_drop
      have := prG_fuel f g (l.drop (gtN l)) (by omega) (by omega)
      simp only [prG, if_pos h, this]
    · simp only [prG, if_neg h]
theorem pr_yes {l : List UInt8} (h : gtE l = 0) : pr l = (gtS l :: (pr (l.drop (gtN l))).1, (pr (l.drop (gtN l))).2) := by
  obtain ⟨_, _, _, h4, h5⟩ := gt_bwd h
  have hd : (l.drop (gtN l)).length = l.length - gtN l := List.length_drop
  unfold pr
  rw [prG_fuel l.length (l.length + 1) l (Nat.le_refl _) (by omega)]
  simp only [prG, if_pos h]
  rw [prG_fuel l.length (l.drop (gtN l)).length _ (by omega) (Nat.le_refl _)]
theorem pr_no {l : List UInt8} (h : ¬ gtE l = 0) : pr l = ([], l) := by
  unfold pr
  cases hl : l.length with
  | zero => rfl
  | succ n => simp only [prG, if_neg h]
/-- what All tells: its error; its texts, if there is none; and Count -/
def alE (l : List UInt8) : Int := if (pr l).2 = [] then 0 else gtE (pr l).2
def alL (l : List UInt8) : List ByteArray := if alE l = 0 then (pr l).1 else []
def cnt (l : List UInt8) : Nat := (pr l).1.length
theorem pr_end : ∀ (n : Nat) (l : List UInt8), l.length ≤ n → ¬ gtE (pr l).2 = 0
  | n, l, hn => by
    by_cases h : gtE l = 0
    · obtain ⟨_, _, _, h4, h5⟩ := gt_bwd h
      have hd : (l.drop (gtN l)).length = l.length - gtN l := List.length_drop
      rw [pr_yes h]
      match n with
      | 0 => omega
      | n + 1 => exact pr_end n _ (by omega)
    · rw [pr_no h]
      exact h
theorem pr_all : ∀ (n : Nat) (l : List UInt8), l.length ≤ n → l = (pr l).1.flatMap frmB ++ (pr l).2 ∧ ∀ s ∈ (pr l).1, okF s
  | n, l, hn => by
    by_cases h : gtE l = 0
    · obtain ⟨h1, h2, _, h4, h5⟩ := gt_bwd h
      have hd : (l.drop (gtN l)).length = l.length - gtN l := List.length_drop
      match n with
      | 0 => omega
      | n + 1 =>
        obtain ⟨i1, i2⟩ := pr_all n (l.drop (gtN l)) (by omega)
        rw [pr_yes h]
        refine ⟨?_, fun s hs => ?_⟩
        · show l = frmB (gtS l) ++ (pr (l.drop (gtN l))).1.flatMap frmB ++ (pr (l.drop (gtN l))).2
          rw [List.append_assoc, ← i1]
          exact h2
        · rcases List.mem_cons.1 hs with rfl | hs
          · exact h1
          · exact i2 s hs
    · rw [pr_no h]
      exact ⟨rfl, fun s hs => by cases hs⟩
theorem pr_flat : ∀ {fs : List ByteArray} {r : List UInt8}, (∀ s ∈ fs, okF s) → pr (fs.flatMap frmB ++ r) = (fs ++ (pr r).1, (pr r).2)
  | [], r, _ => rfl
  | s :: fs, r, h => by
    rw [List.flatMap_cons, List.append_assoc]
    obtain ⟨h1, h2, h3, h4⟩ := gt_frm (h s (List.mem_cons_self ..)) (fs.flatMap frmB ++ r)
    rw [pr_yes h1, h2, h4, pr_flat (fun t ht => h t (List.mem_cons_of_mem _ ht))]
    rfl
theorem pr_nil : pr [] = ([], []) := rfl
/-- what Join tells: its error; its bytes, if there is none -/
def jnE : List ByteArray → Int
  | [] => 0
  | s :: l => if fpE s = 0 then jnE l else fpE s
def jnT (l : List ByteArray) : ByteArray := if jnE l = 0 then ⟨(l.flatMap frmB).toArray⟩ else ⟨#[]⟩
theorem jn_ok {l : List ByteArray} : jnE l = 0 ↔ ∀ s ∈ l, okF s := by
  induction l with
  | nil => simp [jnE]
  | cons s l ih =>
    unfold jnE
    by_cases h : fpE s = 0
    · rw [if_pos h, ih]
      simp [fpE_ok.1 h]
    · rw [if_neg h]
      constructor
      · intro e; exact absurd e h
      · intro e; exact absurd (fpE_ok.2 (e s (List.mem_cons_self ..))) h
theorem jn_data {l : List ByteArray} (h : ∀ s ∈ l, okF s) : (jnT l).data.toList = l.flatMap frmB := by
  unfold jnT
  rw [if_pos (jn_ok.2 h)]
/-- what is joined is told -/
theorem al_jn {l : List ByteArray} (h : ∀ s ∈ l, okF s) : alE (jnT l).data.toList = 0 ∧ alL (jnT l).data.toList = l ∧ cnt (jnT l).data.toList = l.length := by
  have e : pr (jnT l).data.toList = (l, []) := by
    rw [jn_data h]
    have := pr_flat (r := []) h
    rw [List.append_nil, pr_nil, List.append_nil] at this
    exact this
  have he : alE (jnT l).data.toList = 0 := by
    unfold alE
    rw [e, if_pos rfl]
  refine ⟨he, ?_, ?_⟩
  · unfold alL
    rw [if_pos he, e]
  · unfold cnt
    rw [e]
/-- what is told is joined as it was -/
theorem jn_al {b : ByteArray} (h : alE b.data.toList = 0) : jnE (alL b.data.toList) = 0 ∧ jnT (alL b.data.toList) = b := by
  obtain ⟨h1, h2⟩ := pr_all _ b.data.toList (Nat.le_refl _)
  have hl : alL b.data.toList = (pr b.data.toList).1 := if_pos h
  have hr : (pr b.data.toList).2 = [] := by
    apply Decidable.byContradiction
    intro hn
    unfold alE at h
    rw [if_neg hn] at h
    exact pr_end _ _ (Nat.le_refl _) h
  rw [hl]
  refine ⟨jn_ok.2 h2, ?_⟩
  apply ByteArray.ext
  apply Array.toList_inj.1
  rw [jn_data h2]
  rw [hr, List.append_nil] at h1
  exact h1.symm
/-- how many of the first texts fit -/
def fitN : List ByteArray → Int → Nat
  | [], _ => 0
  | s :: l, m => if 0 < fsz s ∧ (fsz s : Int) ≤ m then fitN l (m - fsz s) + 1 else 0
def sumF (l : List ByteArray) : Nat := (l.map fsz).sum
theorem fit_le : ∀ (l : List ByteArray) (m : Int), fitN l m ≤ l.length
  | [], _ => Nat.le_refl _
  | s :: l, m => by
    unfold fitN
    by_cases h : 0 < fsz s ∧ (fsz s : Int) ≤ m
    · rw [if_pos h, List.length_cons]
      have := fit_le l (m - fsz s)
      omega
    · rw [if_neg h]
      exact Nat.zero_le _
theorem sumF_cons (s : ByteArray) (l : List ByteArray) : sumF (s :: l) = fsz s + sumF l := by simp [sumF]
theorem fit_sum : ∀ (l : List ByteArray) (m : Int), 0 ≤ m → (sumF (l.take (fitN l m)) : Int) ≤ m ∧ ∀ s ∈ l.take (fitN l m), okF s
  | [], m, h => ⟨by simpa [fitN, sumF] using h, fun s hs => by simp [fitN] at hs⟩
  | s :: l, m, h => by
    unfold fitN
    by_cases h1 : 0 < fsz s ∧ (fsz s : Int) ≤ m
    · rw [if_pos h1, List.take_succ_cons, sumF_cons]
      obtain ⟨i1, i2⟩ := fit_sum l (m - fsz s) (by omega)
      refine ⟨by omega, fun t ht => ?_⟩
      rcases List.mem_cons.1 ht with rfl | ht
      · exact fsz_pos.1 h1.1
      · exact i2 t ht
    · rw [if_neg h1, List.take_zero]
      exact ⟨by simpa [sumF] using h, fun t ht => by cases ht⟩
/-- not one more fits -/
theorem fit_most : ∀ (l : List ByteArray) (m : Int), (∀ s ∈ l, okF s) → ∀ h : fitN l m < l.length, m < (sumF (l.take (fitN l m)) : Int) + (fsz l[fitN l m] : Int)
  | [], _, _, h => by cases h
  | s :: l, m, ho, h => by
    by_cases h1 : 0 < fsz s ∧ (fsz s : Int) ≤ m
    · have e : fitN (s :: l) m = fitN l (m - fsz s) + 1 := if_pos h1
      have h' : fitN l (m - fsz s) < l.length := by rw [e, List.length_cons] at h; omega
      have i := fit_most l (m - fsz s) (fun t ht => ho t (List.mem_cons_of_mem _ ht)) h'
      simp only [e, List.take_succ_cons, sumF_cons, List.getElem_cons_succ]
      omega
    · have e : fitN (s :: l) m = 0 := if_neg h1
      have hp := fsz_pos.2 (ho s (List.mem_cons_self ..))
      simp only [e, List.take_zero, List.getElem_cons_zero]
      have : ¬ (fsz s : Int) ≤ m := fun hle => h1 ⟨hp, hle⟩
      simp [sumF]
      omega
/-- as many of some texts as fit fit; with a byte less one fewer does -/
theorem fit_same : ∀ (l : List ByteArray) (k : Nat), (∀ s ∈ l, okF s) → k ≤ l.length → fitN l (sumF (l.take k)) = k ∧ (0 < k → fitN l ((sumF (l.take k) : Int) - 1) = k - 1)
  | [], k, _, hk => by
    have : k = 0 := Nat.le_zero.1 hk
    subst this
    exact ⟨rfl, fun h => by cases h⟩
  | s :: l, 0, ho, _ => by
    refine ⟨?_, fun h => by cases h⟩
    have hp := fsz_pos.2 (ho s (List.mem_cons_self ..))
    have : ¬ (0 < fsz s ∧ (fsz s : Int) ≤ ((sumF ((s :: l).take 0) : Nat) : Int)) := by
      simp only [List.take_zero]
      rw [show sumF [] = 0 from rfl]
      omega
    exact if_neg this
  | s :: l, k + 1, ho, hk => by
    have hp := fsz_pos.2 (ho s (List.mem_cons_self ..))
    obtain ⟨i1, i2⟩ := fit_same l k (fun t ht => ho t (List.mem_cons_of_mem _ ht)) (by simpa using hk)
    rw [List.take_succ_cons, sumF_cons]
    refine ⟨?_, fun _ => ?_⟩
    · have h1 : 0 < fsz s ∧ (fsz s : Int) ≤ ((fsz s + sumF (l.take k) : Nat) : Int) := ⟨hp, by omega⟩
      unfold fitN
      rw [if_pos h1, show ((fsz s + sumF (l.take k) : Nat) : Int) - (fsz s : Int) = (sumF (l.take k) : Int) by omega, i1]
    · show fitN (s :: l) _ = k
      by_cases hk0 : k = 0
      · subst hk0
        have h1 : ¬ (0 < fsz s ∧ (fsz s : Int) ≤ ((fsz s + sumF (l.take 0) : Nat) : Int) - 1) := by
          simp only [List.take_zero]
          rw [show sumF [] = 0 from rfl]
          omega
        exact if_neg h1
      · have hpos : 0 < sumF (l.take k) := by
          cases l with
          | nil => simp at hk; omega
          | cons t l =>
            obtain ⟨j, rfl⟩ : ∃ j, k = j + 1 := ⟨k - 1, by omega⟩
            have := fsz_pos.2 (ho t (List.mem_cons_of_mem _ (List.mem_cons_self ..)))
            rw [List.take_succ_cons, sumF_cons]
            omega
        have h1 : 0 < fsz s ∧ (fsz s : Int) ≤ ((fsz s + sumF (l.take k) : Nat) : Int) - 1 := ⟨hp, by omega⟩
        unfold fitN
        rw [if_pos h1, show ((fsz s + sumF (l.take k) : Nat) : Int) - 1 - (fsz s : Int) = (sumF (l.take k) : Int) - 1 by omega, i2 (by omega)]
        omega
end Go.Proofs.YtackinamkibmlaaDoor
