/- Contracts of layer 2: the document's first character of a text is the program's. -/
import Derived.Test.YtackinamkibmlaaDoorUB
namespace Go.Proofs.YtackinamkibmlaaDoor
open Go.RowKit
open Go.Lib (byteCells)
set_option linter.unusedVariables false
set_option linter.unusedSimpArgs false

def bi (l : List UInt8) (k : Nat) : Int := (bt l k : Int)
def valN (l : List UInt8) (n : Nat) : Int :=
  match n with
  | 1 => bi l 0
  | 2 => 64 * (bi l 0 - 192) + bi l 1 - 128
  | 3 => 4096 * (bi l 0 - 224) + 64 * (bi l 1 - 128) + bi l 2 - 128
  | _ => 262144 * (bi l 0 - 240) + 4096 * (bi l 1 - 128) + 64 * (bi l 2 - 128) + bi l 3 - 128
theorem bt_app (x r : List UInt8) (k : Nat) (h : k < x.length) : bt (x ++ r) k = x[k].toNat := by
  unfold bt; simp [List.getD, List.getElem?_append_left h, h]
theorem val_enc (c : Nat) (hc : isCh c) (l : List UInt8) (k : Nat) (h : enc c = l.take k) (hk : k ≤ l.length) : valN l k = c := by
  have hl : l = enc c ++ l.drop k := by rw [h, List.take_append_drop]
  have hlen : (enc c).length = k := by rw [h, List.length_take]; omega
  generalize l.drop k = r at hl
  subst hl
  subst hlen
  clear h hk
  unfold isCh at hc
  unfold enc
  split
  · rename_i h1
    show bi _ 0 = _
    unfold bi; rw [bt_app _ _ _ (by simp)]
    simp only [List.getElem_cons_zero]
    rw [u8_ofNat (by omega)]
  · split
    · rename_i h0 h1
      show 64 * (bi _ 0 - 192) + bi _ 1 - 128 = _
      unfold bi; rw [bt_app _ _ _ (by simp), bt_app _ _ _ (by simp)]
      simp only [List.getElem_cons_zero, List.getElem_cons_succ]
      rw [u8_ofNat (by omega), u8_ofNat (by omega)]
      omega
    · split
      · rename_i h0 h1 h2
        show 4096 * (bi _ 0 - 224) + 64 * (bi _ 1 - 128) + bi _ 2 - 128 = _
        unfold bi; rw [bt_app _ _ _ (by simp), bt_app _ _ _ (by simp), bt_app _ _ _ (by simp)]
        simp only [List.getElem_cons_zero, List.getElem_cons_succ]
        rw [u8_ofNat (by omega), u8_ofNat (by omega), u8_ofNat (by omega)]
        omega
      · rename_i h0 h1 h2
        show 262144 * (bi _ 0 - 240) + 4096 * (bi _ 1 - 128) + 64 * (bi _ 2 - 128) + bi _ 3 - 128 = _
        unfold bi; rw [bt_app _ _ _ (by simp), bt_app _ _ _ (by simp), bt_app _ _ _ (by simp), bt_app _ _ _ (by simp)]
        simp only [List.getElem_cons_zero, List.getElem_cons_succ]
        rw [u8_ofNat (by omega), u8_ofNat (by omega), u8_ofNat (by omega), u8_ofNat (by omega)]
        omega
/-- n bytes are a character's -/
def hit (l : List UInt8) (n : Nat) : Bool := isChB (valN l n) && decide (enc (valN l n).toNat = l.take n)
theorem hit_yes {l : List UInt8} {n : Nat} (h : hit l n = true) (hn : n ≤ l.length) : nxtC l = valN l n ∧ nxtK l = n := by
  unfold hit at h
  rw [Bool.and_eq_true, decide_eq_true_eq] at h
  obtain ⟨h1, h2, h3, _⟩ := isChB_of _ h.1
  have := only_one h2 h.2 hn
  rw [h3] at this; exact this
theorem hit_none {l : List UInt8} (h : ∀ n, 1 ≤ n → n ≤ 4 → n ≤ l.length → hit l n = false) : nxtC l = -1 := by
  rcases nxtC_cases l with ⟨h1, _⟩ | ⟨h1, h2, h3, h4, h5, h6⟩
  · exact h1
  · have hv := val_enc _ h2 l (nxtK l) h3 h6
    have := h (nxtK l) h4 h5 h6
    unfold hit at this
    rw [hv, isChB_nat _ h2, Int.toNat_natCast, h3] at this
    simp at this
theorem fast {l : List UInt8} (h : l ≠ []) (hb : bt l 0 < 128) : nxtC l = bi l 0 ∧ nxtK l = 1 := by
  have hd : dec l = (bt l 0, 1) := by
    unfold dec; rw [if_neg (by simpa using h)]; unfold Lib.decodeN; rw [if_pos hb]
  unfold nxtC nxtK
  rw [hd]
  refine ⟨?_, rfl⟩
  rw [if_neg (by simp only; omega)]
  rfl
theorem sz_list (s : ByteArray) : s.size = s.data.toList.length := by cases s; simp [ByteArray.size]
theorem at_bi (s : ByteArray) (k : Nat) (h : k < s.size) : ((s[k]'h).toNat : Int) = bi s.data.toList k := by
  unfold bi bt
  have h' : k < s.data.toList.length := by rw [← sz_list]; exact h
  rw [show s.data.toList.getD k 0 = s.data.toList[k] from by rw [List.getD_eq_getElem?_getD, List.getElem?_eq_getElem h']; rfl]
  rfl
theorem bi_bd (l : List UInt8) (k : Nat) : 0 ≤ bi l k ∧ bi l k ≤ 255 := by
  unfold bi bt
  have := UInt8.toNat_lt (l.getD k 0)
  omega

theorem bt0 (s : ByteArray) (x0 : UInt8) (h : 0 < s.size) (hx : s[0]'h = x0) : bt s.data.toList 0 = x0.toNat := by
  have := at_bi s 0 h
  rw [hx] at this
  unfold bi at this; omega
theorem ex_list (s : ByteArray) (k : Nat) : (s.extract 0 k).data.toList = s.data.toList.take k := by
  cases s with
  | mk d => simp [ByteArray.data_extract]
theorem ba_ext {a b : ByteArray} (h : a.data.toList = b.data.toList) : a = b := by
  apply ByteArray.ext; exact Array.toList_inj.1 h
theorem min_one (n : Nat) (h : 0 < n) : min 1 (n : Int) = 1 := by omega

theorem ret_ints {a b c d : Int} (h1 : a = c) (h2 : b = d) : Ending.returned (.tuple #[.int .i64 a, .int .i64 b]) = .returned (.tuple #[.int .i64 c, .int .i64 d]) := by rw [h1, h2]
end Go.Proofs.YtackinamkibmlaaDoor
