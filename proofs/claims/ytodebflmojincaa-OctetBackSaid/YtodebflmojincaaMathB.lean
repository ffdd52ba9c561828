/- Plain facts: what was laid is read, one behind the other. -/
import Derived.Test.YtodebflmojincaaMathU
import Derived.Test.YtodebflmojincaaOctG
namespace Go.Proofs.Ytodebflmojincaa
open Go.RowKit
set_option linter.unusedVariables false
set_option linter.unusedSimpArgs false

theorem be_foldl (l : List UInt8) (n : Int) : l.foldl (fun n c => 256 * n + (c.toNat : Int)) n = 256 ^ l.length * n + be l := by
  induction l generalizing n with
  | nil => simp [be]
  | cons c r ih =>
    unfold be
    rw [List.foldl_cons, List.foldl_cons, ih, ih (256 * 0 + (c.toNat : Int)), List.length_cons, Int.pow_succ, Int.mul_add, Int.mul_add]
    have : (256 : Int) ^ r.length * (256 * n) = 256 ^ r.length * 256 * n := by rw [Int.mul_assoc]
    omega
theorem be_cons (c : UInt8) (r : List UInt8) : be (c :: r) = 256 ^ r.length * (c.toNat : Int) + be r := by
  have := be_foldl r (256 * 0 + (c.toNat : Int))
  unfold be
  rw [List.foldl_cons, this]
  unfold be
  congr 2; omega
/-- what was laid is the number, as far as it goes -/
theorem be_lay (n : Int) (k : Nat) : be (lay n k) = n % 256 ^ k := by
  induction k with
  | zero => simp [lay, be]
  | succ k ih =>
    rw [lay, be_cons, lay_len, ih, dig_toNat, Int.pow_succ]
    have hp : (0 : Int) < 256 ^ k := Int.pow_pos (by decide)
    generalize (256 : Int) ^ k = P at *
    have e1 := Int.mul_ediv_add_emod n P
    have e2 := Int.mul_ediv_add_emod (n / P) 256
    have e3 : n % (P * 256) = P * (n / P % 256) + n % P := by
      have h0 := Int.emod_nonneg n (Int.ne_of_gt hp)
      have h1 := Int.emod_lt_of_pos n hp
      have h2 := Int.emod_nonneg (n / P) (show (256 : Int) ≠ 0 by decide)
      have h3 := Int.emod_lt_of_pos (n / P) (show (0 : Int) < 256 by decide)
      have hlt : P * (n / P % 256) + n % P < P * 256 := by
        have : P * (n / P % 256) ≤ P * 255 := Int.mul_le_mul_of_nonneg_left (by omega) (by omega)
        omega
      have hnn : 0 ≤ P * (n / P % 256) + n % P := by
        have := Int.mul_nonneg (Int.le_of_lt hp) h2
        omega
      have en : n = P * (n / P % 256) + n % P + P * 256 * (n / P / 256) := by
        have : P * (n / P) = P * (256 * (n / P / 256) + n / P % 256) := by rw [e2]
        rw [Int.mul_add, ← Int.mul_assoc] at this
        omega
      rw [en, Int.add_mul_emod_self_left]
      rw [← en]
      exact Int.emod_eq_of_lt hnn hlt
    rw [e3]
theorem lay_six (n : Nat) (h : n < 4294967296) : be (lay (n : Int) 6) = n := by
  rw [be_lay, show (256 : Int) ^ 6 = 281474976710656 by decide]; omega
theorem lay_two (n : Nat) (h : n < 65536) : be (lay (n : Int) 2) = n := by
  rw [be_lay, show (256 : Int) ^ 2 = 65536 by decide]; omega

theorem num_at {s : ByteArray} {a k : Nat} {x r : List UInt8} (h : s.data.toList.drop a = x ++ r) (hk : x.length = k) (hw : wide k = true) (ha : a ≤ s.size) :
    numV s a 0 k = .tuple #[.agg #[.string s, .int .i64 ((a + k : Nat) : Int), .int .i64 0], .int .i64 (be x)] ∧ s.data.toList.drop (a + k) = r ∧ a + k ≤ s.size := by
  have hl : s.size = a + (k + r.length) := by
    have h1 := congrArg List.length h
    simp only [List.length_drop, List.length_append, ← sz_list] at h1
    omega
  have hv := numV_ok (s := s) (a := (a : Int)) (b := 0) (n := (k : Int)) (chk_ok (by omega) (by omega)) hw (by omega)
  refine ⟨?_, ?_, by omega⟩
  · rw [hv]
    simp only [Int.toNat_natCast]
    have : cut s a k = x := by unfold cut; rw [h, ← hk, List.take_left]
    rw [this]
    rfl
  · rw [← List.drop_drop, h, ← hk, List.drop_left]
theorem textV_at {s t : ByteArray} {a : Nat} {m : Int} {r : List UInt8} (h : s.data.toList.drop a = sayB t ++ r) (ht : t.size ≤ 255) (hm : (t.size : Int) ≤ m) :
    textV s a 0 m = .tuple #[.agg #[.string s, .int .i64 ((a + 1 + t.size : Nat) : Int), .int .i64 0], .string t] := by
  obtain ⟨e1, e2, e3, _⟩ := text_at h ht hm
  unfold textV
  rw [e1, e2, e3]
  simp
theorem rest_at {s t : ByteArray} {a : Nat} (h : s.data.toList.drop a = t.data.toList) (ha : a ≤ s.size) :
    restV s a 0 = .tuple #[.agg #[.string s, .int .i64 (s.size : Int), .int .i64 0], .string t] := by
  have hc : chk s (a : Int) 0 = 0 := chk_ok (by omega) (by omega)
  rw [restV_ok hc]
  have : s.extract a s.size = t := by
    apply ba_ext
    rw [ext_list, h, List.take_of_length_le]
    have := congrArg List.length h
    simp only [List.length_drop, ← sz_list] at this
    rw [← sz_list]; omega
  rw [this]
/-- a byte less, and it is cut off -/
theorem cut_off {t : ByteArray} (ht : t.size ≤ 200) : textB ⟨((sayB t).take t.size).toArray⟩ 0 0 200 = 3 := by
  have hsz : (⟨((sayB t).take t.size).toArray⟩ : ByteArray).size = t.size := by
    rw [size_mk, List.length_take, sayB_len]; omega
  have hc : chk (⟨((sayB t).take t.size).toArray⟩ : ByteArray) 0 0 = 0 := chk_ok (by omega) (by omega)
  unfold textB
  rw [if_neg (by simp [hc]), hsz]
  by_cases h0 : t.size = 0
  · rw [if_pos (by omega)]
  · rw [if_neg (by omega)]
    have hd : (⟨((sayB t).take t.size).toArray⟩ : ByteArray).data.toList.drop 0 = UInt8.ofNat t.size :: (t.data.toList.take (t.size - 1)) := by
      rw [List.drop_zero]
      show (sayB t).take t.size = _
      obtain ⟨q, hq⟩ : ∃ q, t.size = q + 1 := ⟨t.size - 1, by omega⟩
      unfold sayB
      rw [hq, List.take_succ_cons]
      rfl
    have htl := tlen_one hd
    have : tlen (⟨((sayB t).take t.size).toArray⟩ : ByteArray) ((0 : Int).toNat) = t.size := by
      show tlen _ 0 = _
      rw [htl]; simp [UInt8.toNat_ofNat]; omega
    rw [this, if_neg (by omega), if_pos (by omega)]

theorem IsB.cap {w : World} {B g cap k : Nat} {l : List UInt8} (h : IsB w B (.slice (some ⟨g, 0, none⟩) k cap) l) : l.length ≤ cap := by
  obtain ⟨_, h2⟩ := h
  rcases h2 with ⟨h, _⟩ | ⟨g', cap', cur, h', _, _, hle, _⟩
  · simp at h
  · simp only [Value.slice.injEq] at h'
    omega
theorem IsB.front {w : World} {B g cap n : Nat} {l : List UInt8} (h : IsB w B (.slice (some ⟨g, 0, none⟩) n cap) l) {k : Nat} (hk : k ≤ l.length) : IsB w B (.slice (some ⟨g, 0, none⟩) k cap) (l.take k) := by
  have hlk : (l.take k).length = k := by rw [List.length_take]; omega
  obtain ⟨h1, h2⟩ := h
  rcases h2 with ⟨h, _⟩ | ⟨g', cap', cur, h', hB, hg, hle, hcm, hcs, ht⟩
  · simp at h
  · simp only [Value.slice.injEq, Option.some.injEq, Addr.mk.injEq, and_true, true_and] at h'
    obtain ⟨rfl, rfl, rfl⟩ := h'
    refine ⟨by rw [hlk]; simp [Lib.byteCells]; omega, .inr ⟨g, cap, cur, by rw [hlk], hB, hg, by omega, hcm, hcs, ?_⟩⟩
    rw [hlk]
    have : Lib.byteCells (l.take k) = (Lib.byteCells l).take k := by simp [Lib.byteCells, List.map_take]
    rw [this, ← ht, List.take_take, Nat.mul_one, Nat.mul_one, Nat.min_eq_left hk]
end Go.Proofs.Ytodebflmojincaa
