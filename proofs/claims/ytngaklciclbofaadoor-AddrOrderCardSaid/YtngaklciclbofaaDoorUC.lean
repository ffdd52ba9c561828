/- Contracts of layer 2: the document's first character of a text is the program's. -/
import Derived.Test.YtngaklciclbofaaDoorUB
namespace Go.Proofs.YtngaklciclbofaaDoor
open Go.RowKit
open Go.Lib (byteCells)
set_option linter.unusedVariables false
set_option linter.unusedSimpArgs false

def bi (l : List UInt8) (k : Nat) : Int := (bt l k : Int)
def valN (l : List UInt8) (n : Nat) : Int :=
  match n with
  | 1 => bi l 0
  | 2 => 64 * (bi l 0 - 192) + bi l 1 - 128
  | 3 => 4096 * (bi l 0 - 224) + 64 * (bi l 1 - 128) + bi l 2 - 128
  | _ => 262144 * (bi l 0 - 240) + 4096 * (bi l 1 - 128) + 64 * (bi l 2 - 128) + bi l 3 - 128
theorem bt_app (x r : List UInt8) (k : Nat) (h : k < x.length) : bt (x ++ r) k = x[k].toNat := by
  unfold bt; simp [List.getD, List.getElem?_append_left h, h]
theorem val_enc (c : Nat) (hc : isCh c) (l : List UInt8) (k : Nat) (h : enc c = l.take k) (hk : k ≤ l.length) : valN l k = c := by
  have hl : l = enc c ++ l.drop k := by rw [h, List.take_append_drop]
  have hlen : (enc c).length = k := by rw [h, List.length_take]; omega
  generalize l.drop k = r at hl
  subst hl
  subst hlen
  clear h hk
  unfold isCh at hc
  unfold enc
  split
  · rename_i h1
    show bi _ 0 = _
    unfold bi; rw [bt_app _ _ _ (by simp)]
    simp only [List.getElem_cons_zero]
    rw [u8_ofNat (by omega)]
  · split
    · rename_i h0 h1
      show 64 * (bi _ 0 - 192) + bi _ 1 - 128 = _
      unfold bi; rw [bt_app _ _ _ (by simp), bt_app _ _ _ (by simp)]
      simp only [List.getElem_cons_zero, List.getElem_cons_succ]
      rw [u8_ofNat (by omega), u8_ofNat (by omega)]
      omega
    · split
      · rename_i h0 h1 h2
        show 4096 * (bi _ 0 - 224) + 64 * (bi _ 1 - 128) + bi _ 2 - 128 = _
        unfold bi; rw [bt_app _ _ _ (by simp), bt_app _ _ _ (by simp), bt_app _ _ _ (by simp)]
        simp only [List.getElem_cons_zero, List.getElem_cons_succ]
        rw [u8_ofNat (by omega), u8_ofNat (by omega), u8_ofNat (by omega)]
        omega
      · rename_i h0 h1 h2
        show 262144 * (bi _ 0 - 240) + 4096 * (bi _ 1 - 128) + 64 * (bi _ 2 - 128) + bi _ 3 - 128 = _
        unfold bi; rw [bt_app _ _ _ (by simp), bt_app _ _ _ (by simp), bt_app _ _ _ (by simp), bt_app _ _ _ (by simp)]
        simp only [List.getElem_cons_zero, List.getElem_cons_succ]
        rw [u8_ofNat (by omega), u8_ofNat (by omega), u8_ofNat (by omega), u8_ofNat (by omega)]
        omega
/-- n bytes are a character's -/
def hit (l : List UInt8) (n : Nat) : Bool := isChB (valN l n) && decide (enc (valN l n).toNat = l.take n)
theorem hit_yes {l : List UInt8} {n : Nat} (h : hit l n = true) (hn : n ≤ l.length) : nxtC l = valN l n ∧ nxtK l = n := by
  unfold hit at h
  rw [Bool.and_eq_true, decide_eq_true_eq] at h
  obtain ⟨h1, h2, h3, _⟩ := isChB_of _ h.1
  have := only_one h2 h.2 hn
  rw [h3] at this; exact this
theorem hit_none {l : List UInt8} (h : ∀ n, 1 ≤ n → n ≤ 4 → n ≤ l.length → hit l n = false) : nxtC l = -1 := by
  rcases nxtC_cases l with ⟨h1, _⟩ | ⟨h1, h2, h3, h4, h5, h6⟩
  · exact h1
  · have hv := val_enc _ h2 l (nxtK l) h3 h6
    have := h (nxtK l) h4 h5 h6
    unfold hit at this
    rw [hv, isChB_nat _ h2, Int.toNat_natCast, h3] at this
    simp at this
theorem fast {l : List UInt8} (h : l ≠ []) (hb : bt l 0 < 128) : nxtC l = bi l 0 ∧ nxtK l = 1 := by
  have hd : dec l = (bt l 0, 1) := by
    unfold dec; rw [if_neg (by simpa using h)]; unfold Lib.decodeN; rw [if_pos hb]
  unfold nxtC nxtK
  rw [hd]
  refine ⟨?_, rfl⟩
  rw [if_neg (by simp only; omega)]
  rfl
theorem sz_list (s : ByteArray) : s.size = s.data.toList.length := by cases s; simp [ByteArray.size]
theorem at_bi (s : ByteArray) (k : Nat) (h : k < s.size) : ((s[k]'h).toNat : Int) = bi s.data.toList k := by
  unfold bi bt
  have h' : k < s.data.toList.length := by rw [← sz_list]; exact h
  rw [show s.data.toList.getD k 0 = s.data.toList[k] from by rw [List.getD_eq_getElem?_getD, List.getElem?_eq_getElem h']; rfl]
  rfl
theorem bi_bd (l : List UInt8) (k : Nat) : 0 ≤ bi l k ∧ bi l k ≤ 255 := by
  unfold bi bt
  have := UInt8.toNat_lt (l.getD k 0)
  omega

set_option maxHeartbeats 2000000 in
set_option maxRecDepth 100000 in
theorem value_any (s : ByteArray) (n : Nat) (w : World) (h1 : 1 ≤ n) (h4 : n ≤ 4) (hs : n ≤ s.size) :
    Calls Tryd.prog 62 #[.string s, .int .i64 n] w fun e w' => e = .returned (.int .i64 (valN s.data.toList n)) ∧ Below w.heap.size w w' := by
  have e0 := at_bi s 0 (by omega)
  obtain ⟨x0, hx0⟩ : ∃ x, s[0]'(by omega) = x := ⟨_, rfl⟩
  rw [hx0] at e0
  have hb0 := UInt8.toNat_lt x0
  have hz0 : (0 : Int) < s.size := by omega
  rcases (by omega : n = 1 ∨ n = 2 ∨ n = 3 ∨ n = 4) with rfl | rfl | rfl | rfl
  · have HE := Lib.hid e0
    clear e0
    go_enter Tryd.func62, Tryd.ntmps62
    go_wp2
    go_ret
    exact ⟨ret_int HE.out, Below.refl _ _⟩
  · have e1 := at_bi s 1 (by omega)
    obtain ⟨x1, hx1⟩ : ∃ x, s[1]'(by omega) = x := ⟨_, rfl⟩
    rw [hx1] at e1
    have hb1 := UInt8.toNat_lt x1
    have hz1 : (1 : Int) < s.size := by omega
    have HE := Lib.hid (And.intro e0 e1)
    clear e0 e1
    go_enter Tryd.func62, Tryd.ntmps62
    go_wp2
    go_quiet (fail)
    go_wp2
    go_ret
    obtain ⟨a0, a1⟩ := HE.out
    exact ⟨ret_int (by show _ = 64 * (bi _ 0 - 192) + bi _ 1 - 128; rw [← a0, ← a1]), by (repeat (first | (with_reducible exact Below.refl _ _) | ((with_reducible refine below_alloc ?_ ?_ _); · (first | omega | (simp; done) | (simp; omega))) | ((with_reducible refine below_setCell ?_ ?_ _); · (first | omega | (simp; done) | (simp; omega))) | (with_reducible refine Below.drew ?_) | (with_reducible refine below_drewN ?_ _) | ((with_reducible refine below_call (by assumption) ?_ ?_); · (first | omega | (simp; done) | (simp; omega)))))⟩
  · have e1 := at_bi s 1 (by omega)
    have e2 := at_bi s 2 (by omega)
    obtain ⟨x1, hx1⟩ : ∃ x, s[1]'(by omega) = x := ⟨_, rfl⟩
    obtain ⟨x2, hx2⟩ : ∃ x, s[2]'(by omega) = x := ⟨_, rfl⟩
    rw [hx1] at e1
    rw [hx2] at e2
    have hb1 := UInt8.toNat_lt x1
    have hb2 := UInt8.toNat_lt x2
    have hz1 : (1 : Int) < s.size := by omega
    have hz2 : (2 : Int) < s.size := by omega
    have HE := Lib.hid (And.intro e0 (And.intro e1 e2))
    clear e0 e1 e2
    go_enter Tryd.func62, Tryd.ntmps62
    go_wp2
    go_quiet (fail)
    go_wp2
    go_ret
    obtain ⟨a0, a1, a2⟩ := HE.out
    exact ⟨ret_int (by show _ = 4096 * (bi _ 0 - 224) + 64 * (bi _ 1 - 128) + bi _ 2 - 128; rw [← a0, ← a1, ← a2]), by (repeat (first | (with_reducible exact Below.refl _ _) | ((with_reducible refine below_alloc ?_ ?_ _); · (first | omega | (simp; done) | (simp; omega))) | ((with_reducible refine below_setCell ?_ ?_ _); · (first | omega | (simp; done) | (simp; omega))) | (with_reducible refine Below.drew ?_) | (with_reducible refine below_drewN ?_ _) | ((with_reducible refine below_call (by assumption) ?_ ?_); · (first | omega | (simp; done) | (simp; omega)))))⟩
  · have e1 := at_bi s 1 (by omega)
    have e2 := at_bi s 2 (by omega)
    have e3 := at_bi s 3 (by omega)
    obtain ⟨x1, hx1⟩ : ∃ x, s[1]'(by omega) = x := ⟨_, rfl⟩
    obtain ⟨x2, hx2⟩ : ∃ x, s[2]'(by omega) = x := ⟨_, rfl⟩
    obtain ⟨x3, hx3⟩ : ∃ x, s[3]'(by omega) = x := ⟨_, rfl⟩
    rw [hx1] at e1
    rw [hx2] at e2
    rw [hx3] at e3
    have hb1 := UInt8.toNat_lt x1
    have hb2 := UInt8.toNat_lt x2
    have hb3 := UInt8.toNat_lt x3
    have hz1 : (1 : Int) < s.size := by omega
    have hz2 : (2 : Int) < s.size := by omega
    have hz3 : (3 : Int) < s.size := by omega
    have HE := Lib.hid (And.intro e0 (And.intro e1 (And.intro e2 e3)))
    clear e0 e1 e2 e3
    go_enter Tryd.func62, Tryd.ntmps62
    go_wp2
    go_quiet (fail)
    go_wp2
    go_ret
    obtain ⟨a0, a1, a2, a3⟩ := HE.out
    exact ⟨ret_int (by show _ = 262144 * (bi _ 0 - 240) + 4096 * (bi _ 1 - 128) + 64 * (bi _ 2 - 128) + bi _ 3 - 128; rw [← a0, ← a1, ← a2, ← a3]), by (repeat (first | (with_reducible exact Below.refl _ _) | ((with_reducible refine below_alloc ?_ ?_ _); · (first | omega | (simp; done) | (simp; omega))) | ((with_reducible refine below_setCell ?_ ?_ _); · (first | omega | (simp; done) | (simp; omega))) | (with_reducible refine Below.drew ?_) | (with_reducible refine below_drewN ?_ _) | ((with_reducible refine below_call (by assumption) ?_ ?_); · (first | omega | (simp; done) | (simp; omega)))))⟩
theorem bt0 (s : ByteArray) (x0 : UInt8) (h : 0 < s.size) (hx : s[0]'h = x0) : bt s.data.toList 0 = x0.toNat := by
  have := at_bi s 0 h
  rw [hx] at this
  unfold bi at this; omega
theorem ex_list (s : ByteArray) (k : Nat) : (s.extract 0 k).data.toList = s.data.toList.take k := by
  cases s with
  | mk d => simp [ByteArray.data_extract]
theorem ba_ext {a b : ByteArray} (h : a.data.toList = b.data.toList) : a = b := by
  apply ByteArray.ext; exact Array.toList_inj.1 h
theorem min_one (n : Nat) (h : 0 < n) : min 1 (n : Int) = 1 := by omega

theorem ret_ints {a b c d : Int} (h1 : a = c) (h2 : b = d) : Ending.returned (.tuple #[.int .i64 a, .int .i64 b]) = .returned (.tuple #[.int .i64 c, .int .i64 d]) := by rw [h1, h2]
set_option maxHeartbeats 4000000 in
set_option maxRecDepth 100000 in
theorem refnext_any (s : ByteArray) (w : World) (hs : s.size ≤ maxLen) :
    Calls Tryd.prog 58 #[.string s] w fun e w' => e = .returned (.tuple #[.int .i64 (nxtC s.data.toList), .int .i64 (nxtK s.data.toList)]) ∧ Below w.heap.size w w' := by
  unfold maxLen at hs
  by_cases h0 : s.size = 0
  · have hl : s.data.toList = [] := by
      have := sz_list s
      exact List.eq_nil_of_length_eq_zero (by omega)
    have hz : ¬ ((0 : Int) < s.size) := by omega
    have hz1 : ¬ ((1 : Int) ≤ s.size) := by omega
    have hm : (s.size : Int) = 0 := by omega
    rw [hl, nxtK_nil.1, nxtK_nil.2]
    have HL := Lib.hid hl
    have H0 := Lib.hid h0
    clear hl h0
    go_enter Tryd.func58, Tryd.ntmps58
    go_wp2
    go_loopw [4] (fun i wr => i = .int .i64 1 ∧ wr = w) (fun i _ => 0)
    case atStart => exact ⟨rfl, rfl⟩
    case round =>
      obtain ⟨rfl, rfl⟩ := hrel
      go_wp2
      go_ret2
      exact ⟨ret_ints rfl (by have := H0.out; omega), Below.refl _ _⟩
  · have hne : s.data.toList ≠ [] := by
      intro e
      have h1 := sz_list s
      have h2 : s.data.toList.length = 0 := by rw [e]; rfl
      omega
    have hz : (0 : Int) < s.size := by omega
    obtain ⟨x0, hx0⟩ : ∃ x, s[0]'(by omega) = x := ⟨_, rfl⟩
    have hb0 := UInt8.toNat_lt x0
    have hbt := bt0 s x0 (by omega) hx0
    by_cases ha : (x0.toNat : Int) < 128
    · have hf := fast hne (by omega)
      have hb := at_bi s 0 (by omega)
      rw [hx0] at hb
      rw [hf.1, hf.2, ← hb]
      have HB := Lib.hid hb
      clear hf hb hbt
      go_enter Tryd.func58, Tryd.ntmps58
      go_wp2
      go_ret2
      exact ⟨rfl, Below.refl _ _⟩
    · have ha' : ((128 : Int)) ≤ x0.toNat := by omega
      have HBT := Lib.hid hbt
      have HNE := Lib.hid hne
      clear ha hbt hne h0
      go_enter Tryd.func58, Tryd.ntmps58
      go_wp2
      go_loopw [4] (fun i wr => ∃ k : Nat, 1 ≤ k ∧ k ≤ 5 ∧ i = .int .i64 k ∧ (∀ j, 1 ≤ j → j < k → j ≤ s.data.toList.length → hit s.data.toList j = false) ∧ Below w.heap.size w wr) (fun i _ => 5 - (intOf i).toNat)
      case atStart => exact ⟨1, by omega, by omega, rfl, fun j h1 h2 => by omega, Below.refl _ _⟩
      case round =>
        obtain ⟨k, hk1, hk5, rfl, hno, hB⟩ := hrel
        have HN := Lib.hid hno
        clear hno
        have hsz := hB.size
        by_cases hk4 : k ≤ 4
        · have hk4' : (k : Int) ≤ 4 := by omega
          by_cases hks : k ≤ s.size
          · have hks' : (k : Int) ≤ s.size := by omega
            have hv := value_any s k wr hk1 hk4 hks
            have hlen : k ≤ s.data.toList.length := by rw [← sz_list]; exact hks
            have hex := ex_list s k
            by_cases hh : hit s.data.toList k = true
            · have hy := hit_yes hh hlen
              unfold hit at hh
              rw [Bool.and_eq_true, decide_eq_true_eq] at hh
              obtain ⟨c, hc⟩ : ∃ c, valN s.data.toList k = c := ⟨_, rfl⟩
              rw [hc] at hv hh hy
              have HY := Lib.hid hy
              have hp : ∀ W, Calls Tryd.prog 63 #[.int .i64 c] W fun e w' => e = .returned (.tuple #[.string (s.extract 0 k), .int .i64 0]) ∧ Below W.heap.size W w' := fun W => by
                refine (refput_any c W).mono ?_
                rintro e w' ⟨rfl, hb⟩
                refine ⟨?_, hb⟩
                have e1 : putE c = 0 := by unfold putE; rw [if_pos hh.1]
                have e2 : (⟨(putL c).toArray⟩ : ByteArray) = s.extract 0 k := by
                  apply ba_ext
                  unfold putL
                  rw [if_pos hh.1, ex_list, hh.2]
                rw [e1, e2]
              clear hy hc hh hex
              go_wp2_with (first | (go_at_call 62; refine hv.mono ?_; rintro e w1 ⟨rfl, hb1⟩; have hz1 := hb1.size) | (go_at_call 63; refine (hp _).mono ?_; rintro e w2 ⟨rfl, hb2⟩))
              go_ret2
              exact ⟨ret_ints HY.out.1.symm (by rw [HY.out.2]), by (repeat (first | (with_reducible exact Below.refl _ _) | ((with_reducible refine below_alloc ?_ ?_ _); · (first | omega | (simp; done) | (simp; omega))) | ((with_reducible refine below_setCell ?_ ?_ _); · (first | omega | (simp; done) | (simp; omega))) | (with_reducible refine Below.drew ?_) | (with_reducible refine below_drewN ?_ _) | ((with_reducible refine below_call (by assumption) ?_ ?_); · (first | omega | (simp; done) | (simp; omega)))))⟩
            · have hh' : hit s.data.toList k = false := by simpa using hh
              have HH := Lib.hid hh'
              obtain ⟨c, hc⟩ : ∃ c, valN s.data.toList k = c := ⟨_, rfl⟩
              by_cases hi : isChB c = true
              · have hp : ∀ W, Calls Tryd.prog 63 #[.int .i64 c] W fun e w' => e = .returned (.tuple #[.string ⟨(enc c.toNat).toArray⟩, .int .i64 0]) ∧ Below W.heap.size W w' := fun W => by
                  refine (refput_any c W).mono ?_
                  rintro e w' ⟨rfl, hb⟩
                  refine ⟨?_, hb⟩
                  unfold putE putL
                  rw [if_pos hi, if_pos hi]
                have hq : ((⟨(enc c.toNat).toArray⟩ : ByteArray).toList == (s.extract 0 k).toList) = false := by
                  rw [str_beq, decide_eq_false_iff_not]
                  intro e
                  apply hh
                  unfold hit
                  rw [hc, hi, Bool.true_and, decide_eq_true_eq, ← hex, ← e]
                obtain ⟨t, ht⟩ : ∃ t : ByteArray, ⟨(enc c.toNat).toArray⟩ = t := ⟨_, rfl⟩
                rw [ht] at hp hq
                rw [hc] at hv
                clear hc hh hex hh' ht hi
                go_wp2_with (first | (go_at_call 62; refine hv.mono ?_; rintro e w1 ⟨rfl, hb1⟩; have hz1 := hb1.size) | (go_at_call 63; refine (hp _).mono ?_; rintro e w2 ⟨rfl, hb2⟩))
                go_roundw
                case rel => exact ⟨k + 1, by omega, by omega, by go_num, (fun j h1 h2 h3 => by
                  by_cases e : j = k
                  · subst e; exact HH.out
                  · exact HN.out j h1 (by omega) h3), by (repeat (first | (with_reducible exact Below.refl _ _) | ((with_reducible refine below_alloc ?_ ?_ _); · (first | omega | (simp; done) | (simp; omega))) | ((with_reducible refine below_setCell ?_ ?_ _); · (first | omega | (simp; done) | (simp; omega))) | (with_reducible refine Below.drew ?_) | (with_reducible refine below_drewN ?_ _) | ((with_reducible refine below_call (by assumption) ?_ ?_); · (first | omega | (simp; done) | (simp; omega)))))⟩
                case measure => simp [intOf]; omega
              · have hp : ∀ W, Calls Tryd.prog 63 #[.int .i64 c] W fun e w' => e = .returned (.tuple #[.string ⟨#[]⟩, .int .i64 8]) ∧ Below W.heap.size W w' := fun W => by
                  refine (refput_any c W).mono ?_
                  rintro e w' ⟨rfl, hb⟩
                  refine ⟨?_, hb⟩
                  unfold putE putL
                  rw [if_neg hi, if_neg hi]
                rw [hc] at hv
                clear hc hh hex hh' hi
                go_wp2_with (first | (go_at_call 62; refine hv.mono ?_; rintro e w1 ⟨rfl, hb1⟩; have hz1 := hb1.size) | (go_at_call 63; refine (hp _).mono ?_; rintro e w2 ⟨rfl, hb2⟩))
                go_roundw
                case rel => exact ⟨k + 1, by omega, by omega, by go_num, (fun j h1 h2 h3 => by
                  by_cases e : j = k
                  · subst e; exact HH.out
                  · exact HN.out j h1 (by omega) h3), by (repeat (first | (with_reducible exact Below.refl _ _) | ((with_reducible refine below_alloc ?_ ?_ _); · (first | omega | (simp; done) | (simp; omega))) | ((with_reducible refine below_setCell ?_ ?_ _); · (first | omega | (simp; done) | (simp; omega))) | (with_reducible refine Below.drew ?_) | (with_reducible refine below_drewN ?_ _) | ((with_reducible refine below_call (by assumption) ?_ ?_); · (first | omega | (simp; done) | (simp; omega)))))⟩
                case measure => simp [intOf]; omega
          · have hks' : (s.size : Int) < k := by omega
            have hl := sz_list s
            have hnc := hit_none (l := s.data.toList) (fun n h1 h2 h3 => HN.out n h1 (by omega) h3)
            have HY := Lib.hid (And.intro hnc (nxtK_bad _ HNE.out hnc))
            have hm : (1 : Int) ≤ s.size := by omega
            clear hnc hl
            go_wp2
            go_ret2
            exact ⟨ret_ints HY.out.1.symm (by rw [HY.out.2]; omega), hB⟩
        · have hk4' : (4 : Int) < k := by omega
          have hl := sz_list s
          have hnc := hit_none (l := s.data.toList) (fun n h1 h2 h3 => HN.out n h1 (by omega) h3)
          have HY := Lib.hid (And.intro hnc (nxtK_bad _ HNE.out hnc))
          have hm : (1 : Int) ≤ s.size := by omega
          clear hnc hl
          go_wp2
          go_ret2
          exact ⟨ret_ints HY.out.1.symm (by rw [HY.out.2]; omega), hB⟩
end Go.Proofs.YtngaklciclbofaaDoor
