/- Layer 10, the mathematics: a letter is read as it was laid; what is put is read, and what is read is put. -/
import Derived.Test.YtackinamkibmlaaDoorS10M
namespace Go.Proofs.YtackinamkibmlaaDoor
open Go.RowKit
set_option linter.unusedVariables false
set_option linter.unusedSimpArgs false

theorem drop_le {s : ByteArray} {a : Nat} {l r : List UInt8} (h : s.data.toList.drop a = l ++ r) (hl : 0 < l.length) : a + l.length ≤ s.size := by
  have h2 := congrArg List.length h
  rw [List.length_drop, List.length_append, ← sz_list] at h2
  omega
theorem cut_take {s : ByteArray} {a : Nat} {l r : List UInt8} (h : s.data.toList.drop a = l ++ r) : cut s a l.length = l := by
  unfold cut
  rw [h]
  simp
theorem text_fwd {s : ByteArray} {a m : Nat} {t : ByteArray} {r : List UInt8} (h : s.data.toList.drop a = sayB t ++ r) (h1 : t.size ≤ m) (h2 : t.size ≤ 255) :
    textA s a 0 m = ((a + (sayB t).length : Nat) : Int) ∧ textB s a 0 m = 0 ∧ textS s a 0 m = t := by
  have hle := drop_le h (by rw [sayB_len]; omega)
  rw [sayB_len] at hle ⊢
  have hc : chk s a 0 = 0 := chk_ok (by omega) (by omega)
  have ht : tlen s a = t.size := by
    have e : s.data.toList.drop a = [UInt8.ofNat t.size] ++ (t.data.toList ++ r) := h
    have := cut_take e
    unfold tlen
    rw [show (1 : Nat) = [UInt8.ofNat t.size].length from rfl, this]
    simp [be]
    omega
  have hok : textOk s a 0 m = true := by
    unfold textOk
    refine decide_eq_true ⟨hc, by omega, ?_, ?_⟩
    · rw [Int.toNat_natCast, ht]; omega
    · rw [Int.toNat_natCast, ht]; omega
  refine ⟨?_, ?_, ?_⟩
  · unfold textA
    rw [if_pos hok, Int.toNat_natCast, ht]
    omega
  · unfold textB
    rw [if_neg (by rw [hc]; decide), if_neg (by omega), if_neg (by rw [Int.toNat_natCast, ht]; omega), if_neg (by rw [Int.toNat_natCast, ht]; omega)]
  · unfold textS
    rw [if_pos hok, Int.toNat_natCast, ht]
    apply ByteArray.ext
    apply Array.toList_inj.1
    rw [ex_list2]
    have e : s.data.toList.drop (a + 1) = t.data.toList ++ r := by
      rw [← List.drop_drop, h]
      rfl
    rw [List.drop_take, e, sz_list t]
    rw [show a + 1 + t.data.toList.length - (a + 1) = t.data.toList.length by omega]
    simp
theorem num_fwd {s : ByteArray} {a k : Nat} {n : Int} {r : List UInt8} (h : s.data.toList.drop a = lay n k ++ r) (hk : wide k = true) (h0 : 0 ≤ n) (h1 : n < 256 ^ k) :
    numA s a 0 k = ((a + (lay n k).length : Nat) : Int) ∧ numB s a 0 k = 0 ∧ numN s a 0 k = n := by
  have hw := wide_bd hk
  have hle := drop_le h (by rw [lay_len]; omega)
  rw [lay_len] at hle ⊢
  have hc : chk s a 0 = 0 := chk_ok (by omega) (by omega)
  refine ⟨?_, ?_, ?_⟩
  · unfold numA
    rw [if_pos ⟨hc, hk, by omega⟩]
    omega
  · unfold numB
    rw [if_neg (by rw [hc]; decide), if_neg (by rw [hk]; decide), if_neg (by omega)]
  · unfold numN
    rw [if_pos ⟨hc, hk, by omega⟩]
    have e := cut_take h
    rw [lay_len] at e
    rw [Int.toNat_natCast, Int.toNat_natCast, e, be_lay n k h0]
    exact Int.emod_eq_of_lt h0 h1
theorem getF_fwd {s : ByteArray} {a : Nat} {x y : St} {c : Lt} {r : List UInt8} (h : s.data.toList.drop a = putF x c ++ r) (hf : fitF x c) :
    getF s ((a : Int), 0, y) c = (((a + (putF x c).length : Nat) : Int), 0, updF y x c) := by
  cases c with
  | lu =>
    have hf' : x.u.size ≤ 33 := hf
    obtain ⟨h1, h2, h3⟩ := text_fwd (m := 33) h hf' (by omega)
    show (textA s a 0 (33 : Nat), textB s a 0 (33 : Nat), _) = _
    rw [h1, h2]
    show (_, _, ({ y with u := textS s a 0 (33 : Nat) } : St)) = _
    rw [h3]
    rfl
  | lr =>
    have hf' : x.r.size ≤ 12 := hf
    obtain ⟨h1, h2, h3⟩ := text_fwd (m := 12) h hf' (by omega)
    show (textA s a 0 (12 : Nat), textB s a 0 (12 : Nat), ({ y with r := textS s a 0 (12 : Nat) } : St)) = _
    rw [h1, h2, h3]
    rfl
  | lm =>
    have hf' : x.m.size ≤ 24 := hf
    obtain ⟨h1, h2, h3⟩ := text_fwd (m := 24) h hf' (by omega)
    show (textA s a 0 (24 : Nat), textB s a 0 (24 : Nat), ({ y with m := textS s a 0 (24 : Nat) } : St)) = _
    rw [h1, h2, h3]
    rfl
  | ls =>
    have hf' : 0 ≤ x.s ∧ x.s ≤ 255 := hf
    obtain ⟨h1, h2, h3⟩ := num_fwd (k := 1) h (by decide) hf'.1 (by have := hf'.2; omega)
    show (numA s a 0 (1 : Nat), numB s a 0 (1 : Nat), ({ y with s := numN s a 0 (1 : Nat) } : St)) = _
    rw [h1, h2, h3]
    rfl
  | lp =>
    have hf' : -128 ≤ x.p ∧ x.p ≤ 127 := hf
    obtain ⟨h1, h2, h3⟩ := num_fwd (k := 1) h (by decide) (by omega) (by omega)
    show (numA s a 0 (1 : Nat), numB s a 0 (1 : Nat), ({ y with p := numN s a 0 (1 : Nat) - 128 } : St)) = _
    rw [h1, h2, h3, show x.p + 128 - 128 = x.p by omega]
    rfl
  | lc =>
    have hf' : 0 ≤ x.c ∧ x.c ≤ 255 := hf
    obtain ⟨h1, h2, h3⟩ := num_fwd (k := 1) h (by decide) hf'.1 (by have := hf'.2; omega)
    show (numA s a 0 (1 : Nat), numB s a 0 (1 : Nat), ({ y with c := numN s a 0 (1 : Nat) } : St)) = _
    rw [h1, h2, h3]
    rfl
  | ln =>
    have hf' : 0 ≤ x.n ∧ x.n ≤ 281474976710655 := hf
    obtain ⟨h1, h2, h3⟩ := num_fwd (k := 6) h (by decide) hf'.1 (by have := hf'.2; omega)
    show (numA s a 0 (6 : Nat), numB s a 0 (6 : Nat), ({ y with n := numN s a 0 (6 : Nat) } : St)) = _
    rw [h1, h2, h3]
    rfl
theorem getL_fwd {s : ByteArray} {x : St} : ∀ {l : List Lt} {a : Nat} {y : St} {r : List UInt8}, s.data.toList.drop a = l.flatMap (putF x) ++ r → (∀ c ∈ l, fitF x c) →
    getL s l ((a : Int), 0, y) = (((a + (l.flatMap (putF x)).length : Nat) : Int), 0, l.foldl (fun y c => updF y x c) y)
  | [], a, y, r, _, _ => by simp [getL]
  | c :: l, a, y, r, h, hf => by
    rw [List.flatMap_cons, List.append_assoc] at h
    have h1 := getF_fwd (y := y) h (hf c (List.mem_cons_self ..))
    have h2 : s.data.toList.drop (a + (putF x c).length) = l.flatMap (putF x) ++ r := by
      rw [← List.drop_drop, h]
      simp
    have h3 := getL_fwd (y := updF y x c) h2 (fun c' hc => hf c' (List.mem_cons_of_mem _ hc))
    show getL s l (getF s ((a : Int), 0, y) c) = _
    rw [h1, h3, List.flatMap_cons, List.length_append, Nat.add_assoc]
    rfl
/-- two stanzas' parts of a letter are the same -/
def eqF (x y : St) : Lt → Prop
  | .lu => x.u = y.u
  | .lr => x.r = y.r
  | .lm => x.m = y.m
  | .ls => x.s = y.s
  | .lp => x.p = y.p
  | .lc => x.c = y.c
  | .ln => x.n = y.n
theorem eq_all {x y : St} (hk : x.k = y.k) (h : ∀ c, eqF x y c) : x = y := by
  have h1 : x.u = y.u := h .lu
  have h2 : x.r = y.r := h .lr
  have h3 : x.m = y.m := h .lm
  have h4 : x.s = y.s := h .ls
  have h5 : x.p = y.p := h .lp
  have h6 : x.c = y.c := h .lc
  have h7 : x.n = y.n := h .ln
  cases x; cases y
  simp only at hk h1 h2 h3 h4 h5 h6 h7
  subst hk h1 h2 h3 h4 h5 h6 h7
  rfl
theorem upd_self (y x : St) (c : Lt) : eqF (updF y x c) x c := by cases c <;> rfl
theorem upd_keep {y x z : St} {c d : Lt} (h : eqF y z d) (hcd : c ≠ d) : eqF (updF y x c) z d := by
  cases c <;> cases d <;> first | exact h | exact absurd rfl hcd
theorem upd_more {y x : St} {c d : Lt} (h : eqF y x d) : eqF (updF y x c) x d := by
  cases c <;> cases d <;> first | exact h | rfl
theorem upd_k (y x : St) (c : Lt) : (updF y x c).k = y.k := by cases c <;> rfl
theorem fold_k (x : St) : ∀ (l : List Lt) (y : St), (l.foldl (fun y c => updF y x c) y).k = y.k
  | [], _ => rfl
  | c :: l, y => (fold_k x l (updF y x c)).trans (upd_k y x c)
theorem fold_keep {x : St} {d : Lt} : ∀ {l : List Lt} {y : St}, eqF y x d → eqF (l.foldl (fun y c => updF y x c) y) x d
  | [], _, h => h
  | _ :: l, _, h => fold_keep (l := l) (upd_more h)
theorem fold_in {x : St} {d : Lt} : ∀ {l : List Lt} {y : St}, d ∈ l → eqF (l.foldl (fun y c => updF y x c) y) x d
  | [], _, h => by cases h
  | c :: l, y, h => by
    rcases List.mem_cons.1 h with rfl | h
    · exact fold_keep (l := l) (upd_self y x d)
    · exact fold_in (l := l) h
theorem nil_iff (s : ByteArray) (h : s.size = 0) : s = ⟨#[]⟩ := by
  apply ByteArray.ext
  exact Array.eq_empty_of_size_eq_zero h
theorem zero_nil {x : St} {c : Lt} (h : zeroF x c = true) : eqF (St.nil x.k) x c := by
  cases c <;> simp only [zeroF, decide_eq_true_eq] at h
  · exact (nil_iff _ h).symm
  · exact (nil_iff _ h).symm
  · exact (nil_iff _ h).symm
  · exact h.symm
  · exact h.symm
  · exact h.symm
  · exact h.symm
theorem has_mem {k : Nat} {c : Lt} : hasC k c = true ↔ c ∈ hasL k := by
  unfold hasC
  rw [List.any_eq_true]
  constructor
  · rintro ⟨d, hd, h⟩
    rw [Lt.same_iff] at h
    subst h
    exact hd
  · intro h
    exact ⟨c, h, Lt.same_iff.2 rfl⟩
theorem mem_ltrs (c : Lt) : c ∈ ltrs := by cases c <;> simp [ltrs]
theorem extra_iff {x : St} : extraB x = false ↔ ∀ c, zeroF x c = true ∨ c ∈ hasL x.k.toNat := by
  unfold extraB
  rw [List.any_eq_false]
  constructor
  · intro h c
    have := h c (mem_ltrs c)
    cases hz : zeroF x c with
    | true => exact .inl rfl
    | false =>
      cases hc : hasC x.k.toNat c with
      | true => exact .inr (has_mem.1 hc)
      | false => rw [hz, hc] at this; exact absurd rfl this
  · intro h c _
    rcases h c with h | h
    · rw [h]; simp
    · rw [has_mem.2 h]; simp
/-- what has nothing else is what its letters make -/
theorem fold_all {x : St} (h : extraB x = false) : (hasL x.k.toNat).foldl (fun y c => updF y x c) (St.nil x.k) = x :=
  eq_all (fold_k _ _ _) fun c => by
    rcases extra_iff.1 h c with hz | hm
    · exact fold_keep (zero_nil hz)
    · exact fold_in hm
end Go.Proofs.YtackinamkibmlaaDoor
