/- Contracts of layer 2: a character's bytes, the program's and the document's. -/
import Derived.Test.YtngaklciclbofaaDoorUA
import Derived.Laws.MakeOwn
namespace Go.Proofs.YtngaklciclbofaaDoor
open Go.RowKit
open Go.Lib (byteCells)
set_option linter.unusedVariables false
set_option linter.unusedSimpArgs false

def putL (c : Int) : List UInt8 := if isChB c then enc c.toNat else []
def putE (c : Int) : Int := if isChB c then 0 else 8
theorem encode_enc (c : Int) (h : isChB c = true) : Utf8.encode c = ⟨(enc c.toNat).toArray⟩ := by
  have hv : Utf8.valid c = true := by
    simp only [isChB, decide_eq_true_eq] at h
    simp only [Utf8.valid, Bool.or_eq_true, Bool.and_eq_true, decide_eq_true_eq]; omega
  unfold Utf8.encode enc
  simp only [hv, if_true]
  repeat' split
  all_goals rfl

theorem conv_made (W : World) (xs : List Int) (l : List UInt8) (h : xs = l.map (fun x => (x.toNat : Int))) :
    (convert 57 9 (.slice (some ⟨W.heap.size, 0, none⟩) xs.length xs.length)).run Tryd.prog (W.alloc (.cells (xs.map (Value.int .u8)).toArray 5)) = .ok (.string ⟨l.toArray⟩) (W.alloc (.cells (xs.map (Value.int .u8)).toArray 5)) := by
  have hl : xs.length = l.length := by rw [h, List.length_map]
  have hb : Lib.Bytes (W.alloc (.cells (xs.map (Value.int .u8)).toArray 5)) W.heap.size 0 ⟨l.toArray⟩ := by
    intro i hi
    have hi' : i < l.length := by rw [size_mk] at hi; exact hi
    have := Lib.bytes_of_row (w := W.alloc (.cells (xs.map (Value.int .u8)).toArray 5)) (heap_alloc_new W _) (l := l) (by rw [h]; simp only [List.map_map, List.toList_toArray]; rw [List.take_of_length_le (by simp)]; rfl) i hi'
    rw [Addr.add_lit] at this
    rw [this]
    rfl
  have := Lib.run_convert_whole (P := Tryd.prog) (W.alloc (.cells (xs.map (Value.int .u8)).toArray 5)) 57 5 9 Tryd.underlying57 Tryd.underlying5 Tryd.underlying9 W.heap.size 0 ⟨l.toArray⟩ hb xs.length
  rw [size_mk] at this
  rw [hl] at this ⊢
  exact this
set_option maxHeartbeats 2000000 in
set_option maxRecDepth 100000 in
theorem refput_any (c : Int) (w : World) :
    Calls Tryd.prog 63 #[.int .i64 c] w fun e w' => e = .returned (.tuple #[.string ⟨(putL c).toArray⟩, .int .i64 (putE c)]) ∧ Below w.heap.size w w' := by
  unfold putL putE
  by_cases h : isChB c = true
  · rw [if_pos h, if_pos h]
    obtain ⟨h1, _, h3, h4⟩ := isChB_of c h
    obtain ⟨n, hn⟩ : ∃ n, c.toNat = n := ⟨_, rfl⟩
    rw [hn] at h3 ⊢
    clear hn
    by_cases ha : n < 128
    · have ha' : c < 128 := by omega
      have he : enc n = [UInt8.ofNat n] := by unfold enc; rw [if_pos ha]
      have hcv := conv_made w [c] (enc n) (by rw [he, ← h3]; simp only [List.map_cons, List.map_nil]; rw [u8_ofNat (by omega)])
      simp only [List.map_cons, List.map_nil, List.length_cons, List.length_nil, Nat.zero_add, Nat.reduceAdd] at hcv
      have HE := Lib.hid he
      obtain ⟨L, hL⟩ : ∃ L, enc n = L := ⟨_, rfl⟩
      rw [hL] at hcv ⊢
      clear he HE ha h4 h3 hL
      go_enter Tryd.func63, Tryd.ntmps63
      go_wp2_with (go_at_call 64; refine (ref_char _ _).mono ?_; rintro e w1 ⟨rfl, rfl⟩)
      go_ret2
      exact ⟨rfl, by (repeat (first | (with_reducible exact Below.refl _ _) | ((with_reducible refine below_alloc ?_ ?_ _); · (first | omega | (simp; done) | (simp; omega))) | ((with_reducible refine below_setCell ?_ ?_ _); · (first | omega | (simp; done) | (simp; omega))) | (with_reducible refine Below.drew ?_) | (with_reducible refine below_drewN ?_ _) | ((with_reducible refine below_call (by assumption) ?_ ?_); · (first | omega | (simp; done) | (simp; omega)))))⟩
    · by_cases hb : n < 2048
      · have ha' : (128 : Int) ≤ c := by omega
        have hb' : c < 2048 := by omega
        have he : enc n = [UInt8.ofNat (192 + n / 64), UInt8.ofNat (128 + n % 64)] := by unfold enc; rw [if_neg ha, if_pos hb]
        have hcv := conv_made w [192 + c / 64, 128 + c % 64] (enc n) (by rw [he, ← h3]; simp only [List.map_cons, List.map_nil]; rw [u8_ofNat (by omega), u8_ofNat (by omega)]; simp)
        simp only [List.map_cons, List.map_nil, List.length_cons, List.length_nil, Nat.zero_add, Nat.reduceAdd] at hcv
        have HE := Lib.hid he
        obtain ⟨L, hL⟩ : ∃ L, enc n = L := ⟨_, rfl⟩
        rw [hL] at hcv ⊢
        clear he HE ha hb h4 h3 hL
        go_enter Tryd.func63, Tryd.ntmps63
        go_wp2_with (go_at_call 64; refine (ref_char _ _).mono ?_; rintro e w1 ⟨rfl, rfl⟩)
        go_ret2
        exact ⟨rfl, by (repeat (first | (with_reducible exact Below.refl _ _) | ((with_reducible refine below_alloc ?_ ?_ _); · (first | omega | (simp; done) | (simp; omega))) | ((with_reducible refine below_setCell ?_ ?_ _); · (first | omega | (simp; done) | (simp; omega))) | (with_reducible refine Below.drew ?_) | (with_reducible refine below_drewN ?_ _) | ((with_reducible refine below_call (by assumption) ?_ ?_); · (first | omega | (simp; done) | (simp; omega)))))⟩
      · by_cases hc : n < 65536
        · have ha' : (2048 : Int) ≤ c := by omega
          have hb' : c < 65536 := by omega
          have he : enc n = [UInt8.ofNat (224 + n / 4096), UInt8.ofNat (128 + n / 64 % 64), UInt8.ofNat (128 + n % 64)] := by unfold enc; rw [if_neg ha, if_neg hb, if_pos hc]
          have hcv := conv_made w [224 + c / 4096, 128 + c / 64 % 64, 128 + c % 64] (enc n) (by rw [he, ← h3]; simp only [List.map_cons, List.map_nil]; rw [u8_ofNat (by omega), u8_ofNat (by omega), u8_ofNat (by omega)]; simp)
          simp only [List.map_cons, List.map_nil, List.length_cons, List.length_nil, Nat.zero_add, Nat.reduceAdd] at hcv
          have HE := Lib.hid he
          obtain ⟨L, hL⟩ : ∃ L, enc n = L := ⟨_, rfl⟩
          rw [hL] at hcv ⊢
          clear he HE ha hb hc h4 h3 hL
          go_enter Tryd.func63, Tryd.ntmps63
          go_wp2_with (go_at_call 64; refine (ref_char _ _).mono ?_; rintro e w1 ⟨rfl, rfl⟩)
          go_ret2
          exact ⟨rfl, by (repeat (first | (with_reducible exact Below.refl _ _) | ((with_reducible refine below_alloc ?_ ?_ _); · (first | omega | (simp; done) | (simp; omega))) | ((with_reducible refine below_setCell ?_ ?_ _); · (first | omega | (simp; done) | (simp; omega))) | (with_reducible refine Below.drew ?_) | (with_reducible refine below_drewN ?_ _) | ((with_reducible refine below_call (by assumption) ?_ ?_); · (first | omega | (simp; done) | (simp; omega)))))⟩
        · have ha' : (65536 : Int) ≤ c := by omega
          have he : enc n = [UInt8.ofNat (240 + n / 262144), UInt8.ofNat (128 + n / 4096 % 64), UInt8.ofNat (128 + n / 64 % 64), UInt8.ofNat (128 + n % 64)] := by unfold enc; rw [if_neg ha, if_neg hb, if_neg hc]
          have hcv := conv_made w [240 + c / 262144, 128 + c / 4096 % 64, 128 + c / 64 % 64, 128 + c % 64] (enc n) (by rw [he, ← h3]; simp only [List.map_cons, List.map_nil]; rw [u8_ofNat (by omega), u8_ofNat (by omega), u8_ofNat (by omega), u8_ofNat (by omega)]; simp)
          simp only [List.map_cons, List.map_nil, List.length_cons, List.length_nil, Nat.zero_add, Nat.reduceAdd] at hcv
          have HE := Lib.hid he
          obtain ⟨L, hL⟩ : ∃ L, enc n = L := ⟨_, rfl⟩
          rw [hL] at hcv ⊢
          clear he HE ha hb hc h3 hL
          go_enter Tryd.func63, Tryd.ntmps63
          go_wp2_with (go_at_call 64; refine (ref_char _ _).mono ?_; rintro e w1 ⟨rfl, rfl⟩)
          go_ret2
          exact ⟨rfl, by (repeat (first | (with_reducible exact Below.refl _ _) | ((with_reducible refine below_alloc ?_ ?_ _); · (first | omega | (simp; done) | (simp; omega))) | ((with_reducible refine below_setCell ?_ ?_ _); · (first | omega | (simp; done) | (simp; omega))) | (with_reducible refine Below.drew ?_) | (with_reducible refine below_drewN ?_ _) | ((with_reducible refine below_call (by assumption) ?_ ?_); · (first | omega | (simp; done) | (simp; omega)))))⟩
  · have h' : isChB c = false := by simpa using h
    rw [if_neg h, if_neg h]
    go_enter Tryd.func63, Tryd.ntmps63
    go_wp2_with (go_at_call 64; refine (ref_char _ _).mono ?_; rintro e w1 ⟨rfl, rfl⟩)
    go_ret2
    exact ⟨rfl, Below.refl _ _⟩
end Go.Proofs.YtngaklciclbofaaDoor
