/- Layer 10, the mathematics: what is put is read as it was; what is read is put as it was; no bytes begin with another stanza's. -/
import Derived.Test.YtackinamkibmlaaDoorS10N
namespace Go.Proofs.YtackinamkibmlaaDoor
open Go.RowKit
set_option linter.unusedVariables false
set_option linter.unusedSimpArgs false

theorem isB_size {s : ByteArray} (h : isB s = true) : s.size ≤ 33 := by
  unfold isB at h
  rw [Bool.and_eq_true, decide_eq_true_iff, decide_eq_true_iff] at h
  obtain ⟨h1, h2⟩ := h
  have hp : parE s = 0 := by
    unfold barE at h1
    by_cases h0 : parE s = 0
    · exact h0
    · rw [if_neg h0] at h1; exact h1
  have hk := par_chk hp
  have hz := (achk_ok hk).1
  have hb := (bare_ok hp).2
  rw [h2] at hb
  rw [hb, bare_size]
  omega
theorem resE_size {s : ByteArray} (h : resE s = 0) : s.size ≤ 12 := by
  unfold resE at h
  by_cases h0 : 12 < s.size
  · rw [if_pos h0] at h; cases h
  · omega
theorem chkS_ok {x : St} (h : chkS x = 0) : knownB x.k.toNat = true ∧ extraB x = false ∧ rangeB x = true ∧ x.m.size ≤ 24 ∧ (Lt.lu ∈ hasL x.k.toNat → isB x.u = true) ∧ resE x.r = 0 := by
  unfold chkS at h
  by_cases h1 : knownB x.k.toNat = false
  · rw [if_pos h1] at h; cases h
  rw [if_neg h1] at h
  by_cases h2 : extraB x = true
  · rw [if_pos h2] at h; cases h
  rw [if_neg h2] at h
  by_cases h3 : rangeB x = false
  · rw [if_pos h3] at h; cases h
  rw [if_neg h3] at h
  by_cases h4 : 24 < x.m.size
  · rw [if_pos h4] at h; cases h
  rw [if_neg h4] at h
  by_cases h5 : plB x.m.data.toList = false
  · rw [if_pos h5] at h; cases h
  rw [if_neg h5] at h
  by_cases h6 : (hasC x.k.toNat .lu && !isB x.u) = true
  · rw [if_pos h6] at h; cases h
  rw [if_neg h6] at h
  refine ⟨by simpa using h1, by simpa using h2, by simpa using h3, by omega, fun hm => ?_, h⟩
  rw [has_mem.2 hm] at h6
  simpa using h6
theorem fits {x : St} (h : chkS x = 0) : ∀ c ∈ hasL x.k.toNat, fitF x c := by
  obtain ⟨_, _, h3, h4, h5, h6⟩ := chkS_ok h
  unfold rangeB at h3
  simp only [Bool.and_eq_true, decide_eq_true_eq] at h3
  intro c hc
  cases c with
  | lu => exact isB_size (h5 hc)
  | lr => exact resE_size h6
  | lm => exact h4
  | ls => exact ⟨h3.1.1, by have := h3.1.2; omega⟩
  | lp => exact h3.2.1
  | lc => exact h3.2.2.1
  | ln => exact h3.2.2.2
theorem putF_eq {x y : St} {c : Lt} (h : eqF x y c) : putF x c = putF y c := by
  cases c <;> simp only [eqF] at h <;> simp only [putF, h]
theorem fitF_eq {x y : St} {c : Lt} (h : eqF x y c) (hf : fitF y c) : fitF x c := by
  cases c <;> simp only [eqF] at h <;> simp only [fitF, h] at hf ⊢ <;> exact hf
/-! ### what is read was laid -/
theorem chk_nat {s : ByteArray} {a : Nat} (h : chk s (a : Int) 0 = 0) : a ≤ s.size := by have := (chk_zero h).2.2; omega
theorem text_bwd {s : ByteArray} {a m : Nat} (h : textB s a 0 m = 0) :
    ∃ a' : Nat, textA s a 0 m = (a' : Int) ∧ s.data.toList.drop a = sayB (textS s a 0 m) ++ s.data.toList.drop a' ∧ (textS s a 0 m).size ≤ m ∧ a' ≤ s.size := by
  unfold textB at h
  by_cases hc : chk s a 0 = 0
  · rw [if_neg (by rw [hc]; decide)] at h
    by_cases h1 : (s.size : Int) - a < 1
    · rw [if_pos h1] at h; cases h
    rw [if_neg h1, Int.toNat_natCast] at h
    by_cases h2 : (m : Int) < tlen s a
    · rw [if_pos h2] at h; cases h
    rw [if_neg h2] at h
    by_cases h3 : (s.size : Int) - ((a : Int) + 1) < tlen s a
    · rw [if_pos h3] at h; cases h
    have hok : textOk s a 0 m = true := by
      unfold textOk
      refine decide_eq_true ⟨hc, by omega, ?_, ?_⟩ <;> rw [Int.toNat_natCast] <;> omega
    refine ⟨a + 1 + tlen s a, ?_, ?_, ?_, by omega⟩
    · unfold textA
      rw [if_pos hok, Int.toNat_natCast]
      omega
    · have hs : textS s a 0 m = s.extract (a + 1) (a + 1 + tlen s a) := by unfold textS; rw [if_pos hok, Int.toNat_natCast]
      have hz : (textS s a 0 m).size = tlen s a := by rw [hs]; simp; omega
      have hlt : a < s.data.toList.length := by rw [← sz_list]; omega
      have hd : s.data.toList.drop a = s.data.toList[a] :: s.data.toList.drop (a + 1) := List.drop_eq_getElem_cons hlt
      have hb : (s.data.toList[a]).toNat = tlen s a := by
        unfold tlen cut
        rw [hd]
        simp [be]
      unfold sayB
      rw [hz, ← hb, UInt8.ofNat_toNat, hd, List.cons_append]
      congr 1
      rw [hs, ex_list2, List.drop_take, show a + 1 + tlen s a - (a + 1) = tlen s a by omega, hb, show s.data.toList.drop (a + 1 + tlen s a) = (s.data.toList.drop (a + 1)).drop (tlen s a) by rw [List.drop_drop]]
      exact (List.take_append_drop _ _).symm
    · have hs : textS s a 0 m = s.extract (a + 1) (a + 1 + tlen s a) := by unfold textS; rw [if_pos hok, Int.toNat_natCast]
      rw [hs]
      simp
      omega
  · rw [if_pos hc] at h
    exact absurd h hc
theorem num_bwd {s : ByteArray} {a k : Nat} (h : numB s a 0 k = 0) :
    numA s a 0 k = ((a + k : Nat) : Int) ∧ s.data.toList.drop a = lay (numN s a 0 k) k ++ s.data.toList.drop (a + k) ∧ 0 ≤ numN s a 0 k ∧ numN s a 0 k < 256 ^ k ∧ a + k ≤ s.size := by
  unfold numB at h
  by_cases hc : chk s a 0 = 0
  · rw [if_neg (by rw [hc]; decide)] at h
    by_cases h1 : wide k = false
    · rw [if_pos h1] at h; cases h
    rw [if_neg h1] at h
    have h1' : wide k = true := by simpa using h1
    by_cases h2 : (s.size : Int) - a < k
    · rw [if_pos h2] at h; cases h
    have hn : numN s a 0 k = be (cut s a k) := by
      unfold numN
      rw [if_pos ⟨hc, h1', by omega⟩, Int.toNat_natCast, Int.toNat_natCast]
    have hl : (cut s a k).length = k := cut_len (by omega)
    refine ⟨?_, ?_, ?_, ?_, by omega⟩
    · unfold numA
      rw [if_pos ⟨hc, h1', by omega⟩]
      omega
    · have e : lay (be (cut s a k)) k = cut s a k := by
        have := lay_be (cut s a k)
        rw [hl] at this
        exact this
      rw [hn, e, ← List.drop_drop]
      exact (List.take_append_drop _ _).symm
    · rw [hn]; exact be_nonneg _
    · rw [hn]
      have := be_lt (cut s a k)
      rw [hl] at this
      exact this
  · rw [if_pos hc] at h
    exact absurd h hc
theorem getF_bwd {s : ByteArray} {a : Nat} {y : St} {c : Lt} (h : (getF s ((a : Int), 0, y) c).2.1 = 0) :
    ∃ (a' : Nat) (x : St), getF s ((a : Int), 0, y) c = ((a' : Int), 0, x) ∧ s.data.toList.drop a = putF x c ++ s.data.toList.drop a' ∧ a' ≤ s.size ∧ fitF x c ∧ x.k = y.k ∧ ∀ d, d ≠ c → eqF x y d := by
  cases c with
  | lu =>
    obtain ⟨a', h1, h2, h3, h4⟩ := text_bwd (m := 33) h
    refine ⟨a', { y with u := textS s a 0 (33 : Nat) }, ?_, h2, h4, h3, rfl, fun d hd => by cases d <;> first | rfl | exact absurd rfl hd⟩
    show (textA s a 0 (33 : Nat), textB s a 0 (33 : Nat), _) = _
    rw [h1, show textB s a 0 (33 : Nat) = 0 from h]
    rfl
  | lr =>
    obtain ⟨a', h1, h2, h3, h4⟩ := text_bwd (m := 12) h
    refine ⟨a', { y with r := textS s a 0 (12 : Nat) }, ?_, h2, h4, h3, rfl, fun d hd => by cases d <;> first | rfl | exact absurd rfl hd⟩
    show (textA s a 0 (12 : Nat), textB s a 0 (12 : Nat), _) = _
    rw [h1, show textB s a 0 (12 : Nat) = 0 from h]
    rfl
  | lm =>
    obtain ⟨a', h1, h2, h3, h4⟩ := text_bwd (m := 24) h
    refine ⟨a', { y with m := textS s a 0 (24 : Nat) }, ?_, h2, h4, h3, rfl, fun d hd => by cases d <;> first | rfl | exact absurd rfl hd⟩
    show (textA s a 0 (24 : Nat), textB s a 0 (24 : Nat), _) = _
    rw [h1, show textB s a 0 (24 : Nat) = 0 from h]
    rfl
  | ls =>
    obtain ⟨h1, h2, h3, h4, h5⟩ := num_bwd (k := 1) h
    refine ⟨a + 1, { y with s := numN s a 0 (1 : Nat) }, ?_, h2, h5, ⟨h3, by show numN s a 0 (1 : Nat) ≤ 255; omega⟩, rfl, fun d hd => by cases d <;> first | rfl | exact absurd rfl hd⟩
    show (numA s a 0 (1 : Nat), numB s a 0 (1 : Nat), _) = _
    rw [h1, show numB s a 0 (1 : Nat) = 0 from h]
    rfl
  | lp =>
    obtain ⟨h1, h2, h3, h4, h5⟩ := num_bwd (k := 1) h
    refine ⟨a + 1, { y with p := numN s a 0 (1 : Nat) - 128 }, ?_, ?_, h5, ⟨by show -128 ≤ numN s a 0 (1 : Nat) - 128; omega, by show numN s a 0 (1 : Nat) - 128 ≤ 127; omega⟩, rfl, fun d hd => by cases d <;> first | rfl | exact absurd rfl hd⟩
    · show (numA s a 0 (1 : Nat), numB s a 0 (1 : Nat), _) = _
      rw [h1, show numB s a 0 (1 : Nat) = 0 from h]
      rfl
    · show _ = lay (numN s a 0 (1 : Nat) - 128 + 128) 1 ++ _
      rw [show numN s a 0 (1 : Nat) - 128 + 128 = numN s a 0 (1 : Nat) by omega]
      exact h2
  | lc =>
    obtain ⟨h1, h2, h3, h4, h5⟩ := num_bwd (k := 1) h
    refine ⟨a + 1, { y with c := numN s a 0 (1 : Nat) }, ?_, h2, h5, ⟨h3, by show numN s a 0 (1 : Nat) ≤ 255; omega⟩, rfl, fun d hd => by cases d <;> first | rfl | exact absurd rfl hd⟩
    show (numA s a 0 (1 : Nat), numB s a 0 (1 : Nat), _) = _
    rw [h1, show numB s a 0 (1 : Nat) = 0 from h]
    rfl
  | ln =>
    obtain ⟨h1, h2, h3, h4, h5⟩ := num_bwd (k := 6) h
    refine ⟨a + 6, { y with n := numN s a 0 (6 : Nat) }, ?_, h2, h5, ⟨h3, by show numN s a 0 (6 : Nat) ≤ 281474976710655; omega⟩, rfl, fun d hd => by cases d <;> first | rfl | exact absurd rfl hd⟩
    show (numA s a 0 (6 : Nat), numB s a 0 (6 : Nat), _) = _
    rw [h1, show numB s a 0 (6 : Nat) = 0 from h]
    rfl
theorem textB_bad {s : ByteArray} {a b m : Int} (h : b ≠ 0) : textB s a b m = b := by
  unfold textB
  rw [chk_bad h, if_pos h]
theorem numB_bad {s : ByteArray} {a b n : Int} (h : b ≠ 0) : numB s a b n = b := by
  unfold numB
  rw [chk_bad h, if_pos h]
theorem getF_bad {s : ByteArray} {q : Rd} (h : q.2.1 ≠ 0) (c : Lt) : (getF s q c).2.1 = q.2.1 := by
  cases c <;> first | exact textB_bad h | exact numB_bad h
theorem getL_bad {s : ByteArray} : ∀ {l : List Lt} {q : Rd}, q.2.1 ≠ 0 → (getL s l q).2.1 = q.2.1
  | [], _, _ => rfl
  | c :: l, q, h => by
    have h1 := getF_bad (s := s) h c
    have h2 := getL_bad (s := s) (l := l) (q := getF s q c) (by rw [h1]; exact h)
    exact h2.trans h1
theorem getL_bwd {s : ByteArray} : ∀ {l : List Lt} {a : Nat} {y : St}, l.Nodup → a ≤ s.size → (getL s l ((a : Int), 0, y)).2.1 = 0 →
    ∃ (a' : Nat) (x : St), getL s l ((a : Int), 0, y) = ((a' : Int), 0, x) ∧ s.data.toList.drop a = l.flatMap (putF x) ++ s.data.toList.drop a' ∧ a' ≤ s.size ∧ x.k = y.k ∧ ∀ d, d ∉ l → eqF x y d
  | [], a, y, _, ha, _ => ⟨a, y, rfl, by simp, ha, rfl, fun d _ => by cases d <;> rfl⟩
  | c :: l, a, y, hn, ha, h => by
    have h0 : (getF s ((a : Int), 0, y) c).2.1 = 0 := by
      apply Decidable.byContradiction
      intro hb
      have := getL_bad (s := s) (l := l) hb
      exact hb (this.symm.trans h)
    obtain ⟨a1, x1, e1, d1, l1, _, k1, o1⟩ := getF_bwd h0
    have hn' := List.nodup_cons.1 hn
    have e0 : getL s (c :: l) ((a : Int), 0, y) = getL s l ((a1 : Int), 0, x1) := by
      show getL s l (getF s ((a : Int), 0, y) c) = _
      rw [e1]
    rw [e0] at h
    obtain ⟨a', x, e2, d2, l2, k2, o2⟩ := getL_bwd hn'.2 l1 h
    refine ⟨a', x, e0.trans e2, ?_, l2, k2.trans k1, fun d hd => ?_⟩
    · rw [d1, d2, List.flatMap_cons, List.append_assoc, putF_eq (o2 c hn'.1)]
    · have hd1 : d ≠ c := fun e => hd (List.mem_cons.2 (.inl e))
      have hd2 : d ∉ l := fun e => hd (List.mem_cons.2 (.inr e))
      have p := o2 d hd2
      have q := o1 d hd1
      cases d <;> exact p.trans q
instance ltDec : DecidableEq Lt := fun a b => if h : Lt.same a b = true then isTrue (Lt.same_iff.1 h) else isFalse (fun e => h (Lt.same_iff.2 e))
theorem ite_all {c : Prop} [Decidable c] {P : List Lt → Prop} {a b : List Lt} (ha : P a) (hb : P b) : P (if c then a else b) := by
  by_cases h : c
  · rw [if_pos h]; exact ha
  · rw [if_neg h]; exact hb
theorem has_all (P : List Lt → Prop) (h : P [.lu, .lr] ∧ P [.ls, .lp] ∧ P [.lu, .ls, .lp] ∧ P [.lu] ∧ P [.ln] ∧ P [.lu, .lm] ∧ P [.lc, .ln] ∧ P [.ls, .lc, .ln] ∧ P [.lu, .lr, .ls, .lp, .ln] ∧ P [.lu, .lr, .ln] ∧ P [.lu, .lm, .ls, .ln] ∧ P [.lu, .ln] ∧ P [.lu, .lc] ∧ P []) (k : Nat) : P (hasL k) := by
  obtain ⟨h1, h2, h3, h4, h5, h6, h7, h8, h9, h10, h11, h12, h13, h14⟩ := h
  unfold hasL
  exact ite_all h1 (ite_all h2 (ite_all h3 (ite_all h4 (ite_all h5 (ite_all h6 (ite_all h7 (ite_all h8 (ite_all h9 (ite_all h10 (ite_all h11 (ite_all h12 (ite_all h13 h14))))))))))))
theorem has_nodup (k : Nat) : (hasL k).Nodup := has_all List.Nodup (by decide) k
/-! ### the whole stanza -/
theorem put_data {x : St} (h : chkS x = 0) : (putT x).data.toList = putB x := by
  unfold putT
  rw [if_pos h]
theorem readQ_put {x : St} (h : chkS x = 0) (r : List UInt8) {b : ByteArray} (hb : b.data.toList = putB x ++ r) :
    headB b = x.k ∧ 0 < b.size ∧ (tailB b).size = ((hasL x.k.toNat).flatMap (putF x)).length + r.length ∧ readQ b = (((((hasL x.k.toNat).flatMap (putF x)).length : Nat) : Int), 0, x) := by
  have e : b.data.toList = x.k :: ((hasL x.k.toNat).flatMap (putF x) ++ r) := hb
  have hk : headB b = x.k := by unfold headB; rw [e]; rfl
  have hz : 0 < b.size := by rw [sz_list, e]; simp
  have ht : (tailB b).data.toList = (hasL x.k.toNat).flatMap (putF x) ++ r := by
    unfold tailB
    rw [ex_list2, sz_list, List.take_length, e]
    rfl
  refine ⟨hk, hz, ?_, ?_⟩
  · rw [sz_list, ht, List.length_append]
  · unfold readQ
    rw [hk]
    have h1 := getL_fwd (s := tailB b) (a := 0) (y := St.nil x.k) (by rw [List.drop_zero]; exact ht) (fits h)
    rw [Nat.zero_add, fold_all (chkS_ok h).2.1] at h1
    exact h1
theorem done_at {s : ByteArray} {a : Nat} (h : a ≤ s.size) : doneN s (a : Int) 0 = if a < s.size then 4 else 0 := by
  have hc : chk s (a : Int) 0 = 0 := chk_ok (by omega) (by omega)
  unfold doneN
  rw [if_neg (by rw [hc]; decide)]
  by_cases hlt : a < s.size
  · rw [if_pos hlt, if_pos (by omega)]
  · rw [if_neg hlt, if_neg (by omega)]
theorem read_put {x : St} (h : chkS x = 0) : rdE (putT x) = 0 ∧ rdS (putT x) = x := by
  obtain ⟨h1, h2, h3, h4⟩ := readQ_put h [] (b := putT x) (by rw [put_data h, List.append_nil])
  have hd : doneN (tailB (putT x)) (readQ (putT x)).1 (readQ (putT x)).2.1 = 0 := by
    rw [h4]
    simp only
    rw [done_at (by omega), if_neg (by rw [h3]; simp)]
  have he : rdE (putT x) = 0 := by
    unfold rdE
    rw [if_neg (by omega), h1, if_neg (by rw [(chkS_ok h).1]; decide), if_pos hd, h4]
    exact h
  refine ⟨he, ?_⟩
  unfold rdS
  rw [if_pos he, h4]
/-- a byte more is too many -/
theorem read_more {x : St} (h : chkS x = 0) {r : List UInt8} (hr : 0 < r.length) {b : ByteArray} (hb : b.data.toList = putB x ++ r) : rdE b = 4 := by
  obtain ⟨h1, h2, h3, h4⟩ := readQ_put h r hb
  have hd : doneN (tailB b) (readQ b).1 (readQ b).2.1 = 4 := by
    rw [h4]
    simp only
    rw [done_at (by omega), if_pos (by omega)]
  unfold rdE
  rw [if_neg (by omega), h1, if_neg (by rw [(chkS_ok h).1]; decide), if_neg (by rw [hd]; decide), hd]
/-- what is read is put as it was -/
theorem put_read {b : ByteArray} (h : rdE b = 0) : chkS (rdS b) = 0 ∧ putT (rdS b) = b := by
  have hS : rdS b = (readQ b).2.2 := if_pos h
  have h' := h
  unfold rdE at h
  by_cases h0 : b.size = 0
  · rw [if_pos h0] at h; cases h
  rw [if_neg h0] at h
  by_cases h1 : knownB (headB b).toNat = false
  · rw [if_pos h1] at h; cases h
  rw [if_neg h1] at h
  by_cases h2 : doneN (tailB b) (readQ b).1 (readQ b).2.1 = 0
  · rw [if_pos h2] at h
    have hc : chkS (rdS b) = 0 := by rw [hS]; exact h
    refine ⟨hc, ?_⟩
    have hbad : (readQ b).2.1 = 0 := by
      unfold doneN at h2
      by_cases hk : chk (tailB b) (readQ b).1 (readQ b).2.1 ≠ 0
      · rw [if_pos hk] at h2; exact absurd h2 hk
      · exact (chk_zero (Decidable.not_not.1 hk)).1
    obtain ⟨a', x, e, d, l, k, _⟩ := getL_bwd (s := tailB b) (y := St.nil (headB b)) (a := 0) (has_nodup _) (Nat.zero_le _) hbad
    have e' : readQ b = ((a' : Int), 0, x) := e
    have ha : a' = (tailB b).size := by
      rw [e'] at h2
      simp only at h2
      rw [done_at l] at h2
      by_cases hlt : a' < (tailB b).size
      · rw [if_pos hlt] at h2; cases h2
      · omega
    have hx : rdS b = x := by rw [hS, e']
    have hk : x.k = headB b := k
    rw [List.drop_zero, ha, sz_list, List.drop_length, List.append_nil] at d
    rw [hx] at hc ⊢
    apply ByteArray.ext
    apply Array.toList_inj.1
    rw [put_data hc]
    unfold putB
    rw [hk, ← d]
    have ht : (tailB b).data.toList = b.data.toList.drop 1 := by
      unfold tailB
      rw [ex_list2, sz_list, List.take_length]
    rw [ht]
    unfold headB
    have hlen : 0 < b.data.toList.length := by rw [← sz_list]; omega
    cases hl : b.data.toList with
    | nil => rw [hl] at hlen; cases hlen
    | cons c l => rfl
  · rw [if_neg h2] at h
    exact absurd h h2
theorem rdS_no {b : ByteArray} (h : ¬ rdE b = 0) : rdS b = St.nil 0 := if_neg h
/-- no stanza's bytes begin with another one's -/
theorem put_front {x y : St} (hx : chkS x = 0) (hy : chkS y = 0) {r : List UInt8} (h : putB y = putB x ++ r) : x = y ∧ r = [] := by
  obtain ⟨_, _, h3, h4⟩ := readQ_put hx r (b := putT y) (by rw [put_data hy, h])
  obtain ⟨_, _, k3, k4⟩ := readQ_put hy [] (b := putT y) (by rw [put_data hy, List.append_nil])
  rw [h4] at k4
  have e1 := (Prod.mk.inj k4).1
  have e2 := (Prod.mk.inj (Prod.mk.inj k4).2).2
  refine ⟨e2, ?_⟩
  rw [h3] at k3
  have : r.length = 0 := by
    simp only [List.length_nil] at k3
    omega
  exact List.eq_nil_of_length_eq_zero this
theorem sayB_le (s : ByteArray) (m : Nat) (h : s.size ≤ m) : (sayB s).length ≤ m + 1 := by rw [sayB_len]; omega
/-- how many bytes a letter has at most -/
def topF : Lt → Nat
  | .lu => 34
  | .lr => 13
  | .lm => 25
  | .ls => 1
  | .lp => 1
  | .lc => 1
  | .ln => 6
theorem putF_le {x : St} {c : Lt} (h : fitF x c) : (putF x c).length ≤ topF c := by
  cases c with
  | lu => exact sayB_le _ 33 h
  | lr => exact sayB_le _ 12 h
  | lm => exact sayB_le _ 24 h
  | ls => exact Nat.le_of_eq (lay_len _ _)
  | lp => exact Nat.le_of_eq (lay_len _ _)
  | lc => exact Nat.le_of_eq (lay_len _ _)
  | ln => exact Nat.le_of_eq (lay_len _ _)
theorem flat_le {x : St} : ∀ {l : List Lt}, (∀ c ∈ l, fitF x c) → (l.flatMap (putF x)).length ≤ (l.map topF).sum
  | [], _ => by simp
  | c :: l, h => by
    have h1 := putF_le (h c (List.mem_cons_self ..))
    have h2 := flat_le (l := l) (fun d hd => h d (List.mem_cons_of_mem _ hd))
    rw [List.flatMap_cons, List.length_append, List.map_cons, List.sum_cons]
    omega
theorem has_top (k : Nat) : ((hasL k).map topF).sum ≤ 67 := has_all (fun l => (l.map topF).sum ≤ 67) (by decide) k
theorem put_size {x : St} (h : chkS x = 0) : 0 < (putT x).size ∧ (putT x).size ≤ 128 := by
  rw [sz_list, put_data h]
  have h1 := flat_le (fits h)
  have h2 := has_top x.k.toNat
  unfold putB
  rw [List.length_cons]
  omega
theorem put_no {x : St} (h : ¬ chkS x = 0) : putT x = ⟨#[]⟩ := if_neg h
/-- with a byte less it is none -/
theorem read_less {x : St} (h : chkS x = 0) : ¬ rdE ((putT x).extract 0 ((putT x).size - 1)) = 0 := by
  intro hr
  obtain ⟨h1, h2⟩ := put_read hr
  have hz := (put_size h).1
  have hl : (putT x).data.toList ≠ [] := by
    intro e
    rw [sz_list, e] at hz
    cases hz
  have e : putB x = putB (rdS ((putT x).extract 0 ((putT x).size - 1))) ++ [(putT x).data.toList.getLast hl] := by
    rw [← put_data h1, h2, ex_list2, List.drop_zero, sz_list, ← List.dropLast_eq_take, List.dropLast_concat_getLast, put_data h]
  have := (put_front h1 h e).2
  cases this
end Go.Proofs.YtackinamkibmlaaDoor
