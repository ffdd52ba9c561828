/- Plain facts: texts that are packed are unpacked; bytes that are unpacked are packed as they were. -/
import Derived.Test.YtodebflmojincaaOctJ
import Derived.Test.YtodebflmojincaaOctI
namespace Go.Proofs.Ytodebflmojincaa
open Go.RowKit
set_option linter.unusedVariables false
set_option linter.unusedSimpArgs false

theorem sz_list (s : ByteArray) : s.size = s.data.toList.length := by simp
theorem cut_one {s : ByteArray} {a : Nat} {c : UInt8} {r : List UInt8} (h : s.data.toList.drop a = c :: r) : cut s a 1 = [c] := by
  unfold cut; rw [h]; rfl
theorem tlen_one {s : ByteArray} {a : Nat} {c : UInt8} {r : List UInt8} (h : s.data.toList.drop a = c :: r) : tlen s a = c.toNat := by
  unfold tlen; rw [cut_one h]; simp [be]
theorem ext_list (s : ByteArray) (i j : Nat) : (s.extract i j).data.toList = (s.data.toList.drop i).take (j - i) := by
  rw [Lib.extract_data]
theorem ba_ext {x y : ByteArray} (h : x.data.toList = y.data.toList) : x = y := ByteArray.ext (Array.toList_inj.1 h)

/-- a text that stands at a is read -/
theorem text_at {s t : ByteArray} {a : Nat} {m : Int} {r : List UInt8} (h : s.data.toList.drop a = sayB t ++ r) (ht : t.size ≤ 255) (hm : (t.size : Int) ≤ m) :
    textA s a 0 m = a + 1 + t.size ∧ textB s a 0 m = 0 ∧ textS s a 0 m = t ∧ s.data.toList.drop (a + 1 + t.size) = r := by
  have h' : s.data.toList.drop a = UInt8.ofNat t.size :: (t.data.toList ++ r) := by rw [h]; rfl
  have hl : tlen s a = t.size := by rw [tlen_one h']; simp [UInt8.toNat_ofNat]; omega
  have hlen : s.size = a + (1 + t.size + r.length) := by
    have h1 := congrArg List.length h'
    simp only [List.length_drop, List.length_cons, List.length_append, ← sz_list] at h1
    omega
  have hd1 : s.data.toList.drop (a + 1) = t.data.toList ++ r := by
    rw [← List.drop_drop, h']; rfl
  have hc : chk s a 0 = 0 := chk_ok (by omega) (by omega)
  have hv := textV_ok (s := s) (a := a) (m := m) hc (by omega) (by omega) (by omega)
  unfold textV at hv
  simp only [hl, Value.tuple.injEq, Value.agg.injEq, Value.string.injEq, Value.int.injEq, Array.mk.injEq, List.cons.injEq, and_true, true_and] at hv
  obtain ⟨⟨e1, e2⟩, e3⟩ := hv
  refine ⟨e1, e2, ?_, ?_⟩
  · rw [e3]
    apply ba_ext
    rw [ext_list, hd1, show a + 1 + t.size - (a + 1) = t.data.toList.length by rw [← sz_list]; omega, List.take_left]
  · rw [← List.drop_drop, hd1, sz_list t, List.drop_left]

def tot (l : List ByteArray) (k : Nat) : Nat := ((l.take k).map fun t => 1 + t.size).sum
theorem unp_packed {l : List ByteArray} {m : Int} {s : ByteArray} (hs : s.data.toList = packB l) (hl : l.length ≤ 255) (ht : ∀ t ∈ l, t.size ≤ 255 ∧ (t.size : Int) ≤ m) :
    ∀ k, k ≤ l.length → ∃ a : Nat, unp s m k = ((a : Int), 0, l.take k) ∧ s.data.toList.drop a = (l.drop k).flatMap sayB := by
  have hd : s.data.toList.drop 0 = UInt8.ofNat l.length :: l.flatMap sayB := by rw [List.drop_zero, hs]; rfl
  have hsz : 1 ≤ s.size := by rw [sz_list, hs]; simp [packB]
  intro k
  induction k with
  | zero =>
    intro _
    refine ⟨1, ?_, ?_⟩
    · have hc : chk s 0 0 = 0 := chk_ok (by omega) (by omega)
      have e1 : numA s 0 0 1 = 1 := by unfold numA; rw [if_pos ⟨hc, by decide, by omega⟩]; rfl
      have e2 : numB s 0 0 1 = 0 := by unfold numB; rw [if_neg (by simp [hc]), if_neg (by decide), if_neg (by omega)]
      simp [unp, e1, e2]
    · rw [hs]; rfl
  | succ k ih =>
    intro hk
    obtain ⟨a, hu, hda⟩ := ih (by omega)
    have hlt : k < l.length := by omega
    have hdk : l.drop k = l[k] :: l.drop (k + 1) := List.drop_eq_getElem_cons hlt
    rw [hdk, List.flatMap_cons] at hda
    have h := ht l[k] (List.getElem_mem hlt)
    obtain ⟨e1, e2, e3, e4⟩ := text_at (m := m) hda h.1 h.2
    refine ⟨a + 1 + l[k].size, ?_, e4⟩
    unfold unp
    rw [hu]
    simp only [e1, e2, e3]
    rw [List.take_succ_eq_append_getElem hlt]
    rfl
theorem unp_chk {s : ByteArray} {m : Int} {k : Nat} (h : (unp s m k).2.1 = 0) : chk s (unp s m k).1 0 = 0 := by
  cases k with
  | zero => exact num0_ok h
  | succ k => exact (textB_zero h).2
theorem packed_unpacks {l : List ByteArray} {m : Int} {s : ByteArray} (hs : s.data.toList = packB l) (hl : l.length ≤ 255) (ht : ∀ t ∈ l, t.size ≤ 255 ∧ (t.size : Int) ≤ m) :
    unpE s m = 0 ∧ unpL s m = l := by
  have hN : unpN s = l.length := by
    have hd : s.data.toList.drop 0 = UInt8.ofNat l.length :: l.flatMap sayB := by rw [List.drop_zero, hs]; rfl
    have hsz : 1 ≤ s.size := by rw [sz_list, hs]; simp [packB]
    have hc : chk s 0 0 = 0 := chk_ok (by omega) (by omega)
    unfold unpN numN
    rw [if_pos ⟨hc, by decide, by omega⟩]
    show (be (cut s 0 1)).toNat = _
    rw [cut_one hd]
    simp [be, UInt8.toNat_ofNat]; omega
  obtain ⟨a, hu, hd⟩ := unp_packed hs hl ht l.length (Nat.le_refl _)
  rw [List.drop_length, List.flatMap_nil] at hd
  have ha : s.size ≤ a := by
    have := congrArg List.length hd
    simp only [List.length_drop, List.length_nil, ← sz_list] at this
    omega
  have hc : chk s (a : Int) 0 = 0 := by
    have := unp_chk (s := s) (m := m) (k := l.length) (by rw [hu])
    rw [hu] at this; exact this
  have hE : unpE s m = 0 := by
    unfold unpE
    rw [hN, hu]
    show doneN s (a : Int) 0 = 0
    unfold doneN
    rw [if_neg (by simp [hc]), if_neg (by omega)]
  refine ⟨hE, ?_⟩
  unfold unpL
  rw [if_pos hE, hN, hu]
  exact List.take_length

/-- what was read so far is what was packed so far -/
theorem unp_reads {s : ByteArray} {m : Int} (h1 : 1 ≤ s.size) : ∀ k, (unp s m k).2.1 = 0 →
    ∃ a : Nat, (unp s m k).1 = (a : Int) ∧ a ≤ s.size ∧ s.data.toList.take a = s.data.toList.take 1 ++ (unp s m k).2.2.flatMap sayB ∧ ∀ t ∈ (unp s m k).2.2, t.size ≤ 255 ∧ (t.size : Int) ≤ m := by
  intro k
  induction k with
  | zero =>
    intro _
    have hc : chk s 0 0 = 0 := chk_ok (by omega) (by omega)
    have e1 : numA s 0 0 1 = 1 := by unfold numA; rw [if_pos ⟨hc, by decide, by omega⟩]; rfl
    exact ⟨1, e1, h1, by simp [unp], fun t ht => by simp [unp] at ht⟩
  | succ k ih =>
    intro hz
    have hz0 : (unp s m k).2.1 = 0 := by
      have := (textB_zero (s := s) (a := (unp s m k).1) (b := (unp s m k).2.1) (m := m) hz).1
      exact (chk_zero this).1
    obtain ⟨a, ha, hle, hta, hall⟩ := ih hz0
    have hB : textB s a 0 m = 0 := by
      have : textB s (unp s m k).1 (unp s m k).2.1 m = 0 := hz
      rw [ha, hz0] at this; exact this
    have hc := (textB_zero hB).1
    have ho : textOk s a 0 m = true := by
      have h := hB
      unfold textB at h
      rw [if_neg (by simp [hc])] at h
      split at h
      · cases h
      · split at h
        · cases h
        · split at h
          · cases h
          · simp only [textOk, decide_eq_true_eq]; exact ⟨hc, by omega, by omega, by omega⟩
    have ho' := ho
    simp only [textOk, decide_eq_true_eq, Int.toNat_natCast] at ho'
    obtain ⟨_, q1, q2, q3⟩ := ho'
    have hA : textA s a 0 m = ((a + 1 + tlen s a : Nat) : Int) := by unfold textA; rw [if_pos ho, Int.toNat_natCast]; omega
    have hS : textS s a 0 m = s.extract (a + 1) (a + 1 + tlen s a) := by unfold textS; rw [if_pos ho, Int.toNat_natCast]
    obtain ⟨c, r, hcr⟩ : ∃ c r, s.data.toList.drop a = c :: r := by
      cases hd : s.data.toList.drop a with
      | nil =>
        have := congrArg List.length hd
        simp only [List.length_drop, List.length_nil, ← sz_list] at this
        omega
      | cons c r => exact ⟨c, r, rfl⟩
    have htl := tlen_one hcr
    have hr : s.data.toList.drop (a + 1) = r := by rw [← List.drop_drop, hcr]; rfl
    have hrl : r.length = s.size - (a + 1) := by rw [← hr, List.length_drop, ← sz_list]
    have hx : (textS s a 0 m).data.toList = r.take (tlen s a) := by rw [hS, ext_list, hr, show a + 1 + tlen s a - (a + 1) = tlen s a by omega]
    have hxs : (textS s a 0 m).size = tlen s a := by rw [sz_list, hx, List.length_take, hrl]; omega
    have hcb := c.toNat_lt
    refine ⟨a + 1 + tlen s a, ?_, by omega, ?_, ?_⟩
    · show textA s (unp s m k).1 (unp s m k).2.1 m = _
      rw [ha, hz0, hA]
    · have e : sayB (textS s a 0 m) = (s.data.toList.drop a).take (1 + tlen s a) := by
        unfold sayB
        rw [hx, hxs, hcr, Nat.add_comm 1, List.take_succ_cons, htl, UInt8.ofNat_toNat]
      show _ = _ ++ ((unp s m k).2.2 ++ [textS s (unp s m k).1 (unp s m k).2.1 m]).flatMap sayB
      rw [ha, hz0, List.flatMap_append, List.flatMap_singleton, ← List.append_assoc, ← hta, e, Nat.add_assoc, List.take_add]
    · intro t ht
      have ht' : t ∈ (unp s m k).2.2 ++ [textS s (unp s m k).1 (unp s m k).2.1 m] := ht
      rcases List.mem_append.1 ht' with h | h
      · exact hall t h
      · rw [List.mem_singleton] at h
        subst h
        rw [ha, hz0, hxs]
        exact ⟨by omega, q2⟩
theorem unpacked_packs {s : ByteArray} {m : Int} (h : unpE s m = 0) : packE (unpL s m) m = 0 ∧ packB (unpL s m) = s.data.toList := by
  have hL : unpL s m = (unp s m (unpN s)).2.2 := by unfold unpL; rw [if_pos h]
  have hz : (unp s m (unpN s)).2.1 = 0 := by
    unfold unpE at h
    exact Classical.byContradiction fun hn => by rw [doneN_ne hn] at h; exact hn h
  have h1 : 1 ≤ s.size := by
    have h0 : numB s 0 0 1 = 0 := Classical.byContradiction fun hn => by
      have e := unp_stay (s := s) (m := m) (k := 0) hn (unpN s) (Nat.zero_le _)
      rw [e] at hz; exact hn hz
    have hc : chk s 0 0 = 0 := chk_ok (by omega) (by omega)
    unfold numB at h0
    rw [if_neg (by simp [hc]), if_neg (by decide)] at h0
    split at h0
    · cases h0
    · omega
  obtain ⟨a, ha, hle, hta, hall⟩ := unp_reads (m := m) h1 _ hz
  have hdone : ¬ (a : Int) < s.size := by
    intro hlt
    unfold unpE at h
    rw [ha, hz] at h
    unfold doneN at h
    have hc : chk s (a : Int) 0 = 0 := chk_ok (by omega) (by omega)
    rw [if_neg (by simp [hc]), if_pos hlt] at h
    cases h
  have hae : a = s.data.toList.length := by rw [← sz_list]; omega
  rw [hae, List.take_length] at hta
  have hlen : (unpL s m).length = unpN s := by rw [hL, unp_len]
  have hN := unpN_lt s
  constructor
  · rw [hL]
    refine packE_ok (by rw [unp_len]; omega) (fun j hj => ?_)
    have := hall _ (List.getElem_mem hj)
    unfold sayE
    rw [if_neg (by omega)]
  · unfold packB
    rw [hlen]
    have hd : ∃ c r, s.data.toList = c :: r := by
      cases hd : s.data.toList with
      | nil => rw [sz_list, hd] at h1; simp at h1
      | cons c r => exact ⟨c, r, rfl⟩
    obtain ⟨c, r, hcr⟩ := hd
    have hd0 : s.data.toList.drop 0 = c :: r := by rw [List.drop_zero, hcr]
    have hNc : unpN s = c.toNat := by
      have hc : chk s 0 0 = 0 := chk_ok (by omega) (by omega)
      unfold unpN numN
      rw [if_pos ⟨hc, by decide, by omega⟩]
      show (be (cut s 0 1)).toNat = _
      rw [cut_one hd0]
      simp [be]
    rw [hNc, UInt8.ofNat_toNat, hL]
    have e1 : s.data.toList.take 1 = [c] := by rw [hcr]; rfl
    rw [e1] at hta
    exact hta.symm
end Go.Proofs.Ytodebflmojincaa
