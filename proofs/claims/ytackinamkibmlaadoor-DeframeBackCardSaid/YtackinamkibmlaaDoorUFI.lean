/- Layer 2: all characters of a text: the program's. -/
import Derived.Test.YtackinamkibmlaaDoorUE2
import Derived.Test.YtackinamkibmlaaDoorKitI
import Derived.Laws.AppendOwnNone
import Derived.Lib.ConvBytes
namespace Go.Proofs.YtackinamkibmlaaDoor
open Go.RowKit Go.Shelf
open Go.Lib (byteCells)
set_option linter.unusedVariables false
set_option linter.unusedSimpArgs false
attribute [local go_sem] Oper.semAt_some

def allL (l : List UInt8) : List Int := if okB l then (chs l).map fun y => y.1.1 else []
theorem allL_yes {l : List UInt8} (h : ∀ y ∈ chs l, y.1.1 ≠ -1) : allL l = (chs l).map fun y => y.1.1 := by
  have : okB l = true := by unfold okB; rw [List.all_eq_true]; intro y hy; simpa using h y hy
  unfold allL; rw [if_pos this]
theorem allL_no {l : List UInt8} {pre : List Ch} (hp : pre <+: chs l) (h : ∃ y ∈ pre, y.1.1 = -1) : allL l = [] := by
  have h1 := okB_no hp h
  unfold okE at h1
  unfold allL
  cases hb : okB l with
  | true => rw [hb] at h1; simp at h1
  | false => rfl
theorem boxed_app {W w1 : World} {n₀ b B : Nat} {t e : TypeId} {size k : Nat} {u v v' : Value} {xs : List Value} {tmp : Obj} (h : Boxed W b t u) (hte : t ≠ e) (hrow : W.ownsRow n₀ e size v k xs)
    (hgrow : (W.alloc tmp).grownBy w1 v.ownBlock) (hb : B ≠ b) : Boxed (w1.setCell ⟨B, 0, none⟩ v') b t u :=
  boxed_other ((h.alloc tmp).kept hgrow (h.not_row hte hrow)) hb _
theorem row_set {W : World} {n₀ b : Nat} {t e : TypeId} {size k : Nat} {u v : Value} {xs : List Value} (h : W.ownsRow n₀ e size v k xs) (hb : Boxed W b t u) (hte : t ≠ e) (u' : Value) : (W.setCell ⟨b, 0, none⟩ u').ownsRow n₀ e size v k xs :=
  h.kept (grownBy_setCell' W b u') (.inr (hb.not_row hte h).symm)
theorem row_shape {w : World} {B : Nat} {E : TypeId} {z k : Nat} {v : Value} {xs : List Value} (h : w.ownsRow B E z v k xs) : ∃ ao cap, v = .slice ao k cap := by
  rcases h.2 with ⟨hv, h0⟩ | ⟨g, cap, cur, hv, _⟩
  · exact ⟨none, 0, by rw [hv, h0]⟩
  · exact ⟨_, _, hv⟩

end Go.Proofs.YtackinamkibmlaaDoor
namespace Go.Proofs.YtackinamkibmlaaDoor
open Go.RowKit Go.Shelf
open Go.Lib (byteCells)
set_option linter.unusedVariables false
set_option linter.unusedSimpArgs false
attribute [local go_sem] Oper.semAt_some

def sumK : List Ch → Nat
  | [] => 0
  | x :: r => x.1.2 + sumK r
/-- how many bytes of these fit, e ahead of them -/
def cutN : List Ch → Int → Nat → Nat
  | [], _, e => e
  | x :: r, m, e => if m < (e : Int) + x.1.2 then e else cutN r m (e + x.1.2)
theorem sumK_app (a b : List Ch) : sumK (a ++ b) = sumK a + sumK b := by
  induction a with
  | nil => simp [sumK]
  | cons x r ih => simp only [List.cons_append, sumK, ih]; omega
theorem sumK_le (a : List Ch) : sumK a ≤ 4 * a.length := by
  induction a with
  | nil => simp [sumK]
  | cons x r ih => have := x.2.2.2; simp only [sumK, List.length_cons]; omega
theorem sumK_chs (l : List UInt8) : sumK (chs l) = l.length := by
  obtain ⟨n, hn⟩ : ∃ n, n = l.length := ⟨_, rfl⟩
  induction n using Nat.strongRecOn generalizing l with
  | _ n ih =>
    by_cases h : l = []
    · subst h; rfl
    · have hp := nxtK_pos l h
      rw [chs_cons l h]
      have := ih (l.drop (nxtK l)).length (by rw [List.length_drop]; omega) _ rfl
      rw [List.length_drop] at this
      show nxtK l + _ = _
      omega
theorem cutN_le (a : List Ch) (m : Int) : ∀ e, cutN a m e ≤ e + sumK a := by
  induction a with
  | nil => intro e; simp [cutN]
  | cons x r ih =>
    intro e
    simp only [cutN, sumK]
    split
    · omega
    · have := ih (e + x.1.2); omega
theorem cutN_chs (l : List UInt8) (m : Int) : cutN (chs l) m 0 ≤ l.length := by
  have := cutN_le (chs l) m 0
  rw [sumK_chs] at this; omega
/-- all of these have fitted -/
def Fits (pre : List Ch) (m : Int) : Prop := ∀ rest, cutN (pre ++ rest) m 0 = cutN rest m (sumK pre)
theorem Fits.nil (m : Int) : Fits [] m := fun rest => rfl
theorem Fits.snoc {pre : List Ch} {m : Int} (h : Fits pre m) {x : Ch} (hx : ¬ m < (sumK pre : Int) + x.1.2) : Fits (pre ++ [x]) m := by
  intro rest
  rw [List.append_assoc, h, sumK_app]
  show cutN (x :: rest) m _ = _
  simp only [cutN, if_neg hx, sumK, Nat.add_zero]
theorem Fits.stop {pre : List Ch} {m : Int} (h : Fits pre m) {x : Ch} (hx : m < (sumK pre : Int) + x.1.2) (rest : List Ch) : cutN (pre ++ [x] ++ rest) m 0 = sumK pre := by
  rw [List.append_assoc, h]
  show cutN (x :: rest) m _ = _
  simp only [cutN, if_pos hx]
theorem Fits.all {l : List UInt8} {m : Int} (h : Fits (chs l) m) : cutN (chs l) m 0 = sumK (chs l) := by
  have := h []
  rw [List.append_nil] at this
  exact this

end Go.Proofs.YtackinamkibmlaaDoor
namespace Go.Proofs.YtackinamkibmlaaDoor
open Go.RowKit
open Go.Lib (byteCells)
set_option linter.unusedVariables false
set_option linter.unusedSimpArgs false

theorem ex_self (s : ByteArray) : s.extract 0 s.size = s := by
  apply ba_ext
  rw [ex_list, sz_list, List.take_length]
theorem ret_str {a b : ByteArray} (h : a = b) : Ending.returned (.string a) = .returned (.string b) := by rw [h]
theorem cut_more (l : List UInt8) (m : Int) : ∀ (x : Ch) (r : List Ch) (e : Nat), cutN (x :: r) m e = if m < (e : Int) + x.1.2 then e else cutN r m (e + x.1.2) := fun x r e => rfl
end Go.Proofs.YtackinamkibmlaaDoor
namespace Go.Proofs.YtackinamkibmlaaDoor
open Go.RowKit
open Go.Lib (byteCells)
set_option linter.unusedVariables false
set_option linter.unusedSimpArgs false

def lowU (b : UInt8) : UInt8 := if 65 ≤ b.toNat ∧ b.toNat ≤ 90 then UInt8.ofNat (b.toNat + 32) else b
def lowL (l : List UInt8) : List UInt8 := l.map lowU
theorem lowU_in (b : UInt8) (h1 : 65 ≤ b.toNat) (h2 : b.toNat ≤ 90) : ((lowU b).toNat : Int) = (b.toNat : Int) + 32 := by
  unfold lowU; rw [if_pos ⟨h1, h2⟩, u8_ofNat (by omega)]; omega
theorem lowU_out (b : UInt8) (h : ¬ (65 ≤ b.toNat ∧ b.toNat ≤ 90)) : lowU b = b := by unfold lowU; rw [if_neg h]

def ctlB (b : UInt8) : Bool := decide (b.toNat < 32 ∨ b.toNat = 127)
theorem enc_ct (c : Nat) (hc : isCh c) : (enc c).all (fun b => !ctlB b) = !isCtB c := by
  have big : ∀ n, 128 ≤ n → n < 256 → ctlB (UInt8.ofNat n) = false := fun n h1 h2 => by
    unfold ctlB; rw [u8_ofNat h2]; simp; omega
  unfold isCh at hc
  unfold enc
  split
  · rename_i h
    have : ctlB (UInt8.ofNat c) = isCtB c := by
      unfold ctlB isCtB; rw [u8_ofNat (by omega), Bool.eq_iff_iff, decide_eq_true_iff, decide_eq_true_iff]; omega
    simp [this]
  · have hct : isCtB c = false := by unfold isCtB; rw [decide_eq_false_iff_not]; omega
    rw [hct]
    split
    · simp only [List.all_cons, List.all_nil]
      rw [big _ (by omega) (by omega), big _ (by omega) (by omega)]; rfl
    · split
      · simp only [List.all_cons, List.all_nil]
        rw [big _ (by omega) (by omega), big _ (by omega) (by omega), big _ (by omega) (by omega)]; rfl
      · simp only [List.all_cons, List.all_nil]
        rw [big _ (by omega) (by omega), big _ (by omega) (by omega), big _ (by omega) (by omega), big _ (by omega) (by omega)]; rfl
theorem pl_eq (l : List UInt8) : plB l = (l.all (fun b => !ctlB b) && okB l) := by
  obtain ⟨n, hn⟩ : ∃ n, n = l.length := ⟨_, rfl⟩
  induction n using Nat.strongRecOn generalizing l with
  | _ n ih =>
    by_cases h : l = []
    · subst h; rfl
    · have hp := nxtK_pos l h
      have h1 := ih (l.drop (nxtK l)).length (by rw [List.length_drop]; omega) _ rfl
      have e1 : plB l = (decide (nxtC l ≠ -1) && !isCtB (nxtC l) && plB (l.drop (nxtK l))) := by
        unfold plB; rw [chs_cons l h, List.all_cons]; rfl
      have e2 : okB l = (decide (nxtC l ≠ -1) && okB (l.drop (nxtK l))) := by
        unfold okB; rw [chs_cons l h, List.all_cons]; rfl
      rw [e1, e2, h1]
      rcases nxtC_cases l with ⟨h2, _⟩ | ⟨h2, h3, h4, _⟩
      · rw [h2]; simp
      · have e3 : l.all (fun b => !ctlB b) = ((l.take (nxtK l)).all (fun b => !ctlB b) && (l.drop (nxtK l)).all (fun b => !ctlB b)) := by
          rw [← List.all_append, List.take_append_drop]
        rw [e3, ← h4, enc_ct _ h3, h2]
        cases isCtB _ <;> cases (l.drop (nxtK l)).all (fun b => !ctlB b) <;> simp
theorem pl_ctl {l : List UInt8} {b : UInt8} (hb : b ∈ l) (hc : ctlB b = true) : plB l = false := by
  rw [pl_eq]
  have : l.all (fun b => !ctlB b) = false := by rw [List.all_eq_false]; exact ⟨b, hb, by simp [hc]⟩
  rw [this]; rfl
theorem pl_ok {l : List UInt8} (h : ∀ b ∈ l, ctlB b = false) : plB l = okB l := by
  rw [pl_eq]
  have : l.all (fun b => !ctlB b) = true := by rw [List.all_eq_true]; intro b hb; simp [h b hb]
  rw [this]; rfl
theorem at_list (s : ByteArray) (k : Nat) (h : k < s.size) : s.data.toList[k]'(by rw [← sz_list]; exact h) = s[k]'h := by cases s; rfl

theorem map_at {α β : Type} (f : α → β) (l : List α) (k : Nat) (h : k < l.length) (h' : k < (l.map f).length) : (l.map f)[k]'h' = f (l[k]'h) := by simp
theorem lowL_take (s : ByteArray) (k : Nat) (h : k < s.size) : (lowL s.data.toList).take (k + 1) = (lowL s.data.toList).take k ++ [lowU (s[k]'h)] := by
  have hl : k < s.data.toList.length := by rw [← sz_list]; exact h
  have hl2 : k < (lowL s.data.toList).length := by unfold lowL; rw [List.length_map]; exact hl
  rw [List.take_succ_eq_append_getElem hl2]
  congr 2
  exact (map_at lowU _ k hl _).trans (by rw [at_list s k h])
theorem lowL_len (s : ByteArray) : (lowL s.data.toList).length = s.size := by unfold lowL; rw [List.length_map, ← sz_list]
theorem bc_snoc (l : List UInt8) (b : UInt8) : byteCells (l ++ [b]) = byteCells l ++ [Value.int .u8 b.toNat] := by simp [byteCells]

theorem lowL_at (s : ByteArray) (j : Nat) (h : j < s.size) : (lowL s.data.toList)[j]'(by rw [lowL_len]; exact h) = lowU (s[j]'h) := by
  exact (map_at lowU _ j (by rw [← sz_list]; exact h) _).trans (by rw [at_list s j h])
set_option maxRecDepth 100000 in
set_option maxHeartbeats 4000000 in
theorem low_any (s : ByteArray) (w : World) (hs : s.size ≤ 1099511627776) :
    Calls Tryd.prog 75 #[.string s] w fun e w' => e = .returned (.string ⟨(lowL s.data.toList).toArray⟩) ∧ Below w.heap.size w w' := by
  have hcv := Lib.run_convert_string_bytes (P := Tryd.prog) w 9 61 5 s Tryd.underlying9 Tryd.underlying61 Tryd.underlying5
  have hnew := Lib.bytesWorld_at_new w 5 s
  have hzz := Lib.bytesWorld_size w 5 s
  have hbel : Below w.heap.size w (Lib.bytesWorld w 5 s) := ⟨rfl, rfl, rfl, by rw [hzz]; omega, fun k hk => Lib.bytesWorld_at_old w _ s k hk⟩
  have hcell := fun j hj => Lib.bytesWorld_cell w 5 s j hj
  have hfr : ∀ j, j < s.size → (Lib.bytesWorld w 5 s).frozen? ⟨w.heap.size, j, none⟩ = false := fun j hj => by
    unfold World.frozen?
    simp only [hnew]
    have : s.size ≤ (Lib.bytesCells w 5 s).size := by unfold Lib.bytesCells; rw [Array.size_append, Array.size_map]; exact Nat.le_add_right _ _
    show (decide (_ ≤ j) && decide (j < _)) = false
    rw [Bool.and_eq_false_iff]; left; rw [decide_eq_false_iff_not]; omega
  obtain ⟨W1, hW1⟩ : ∃ W1, Lib.bytesWorld w 5 s = W1 := ⟨_, rfl⟩
  obtain ⟨cap, hcap⟩ : ∃ cap, grownCap w s.size 0 5 = cap := ⟨_, rfl⟩
  rw [hW1, hcap] at hcv
  rw [hW1] at hbel hcell hfr hzz
  have HC := Lib.hid hcell
  have HF := Lib.hid hfr
  clear hnew hW1 hcap hcell hfr
  go_enter Tryd.func75, Tryd.ntmps75
  go_wp2
  go_loopw [10] (fun i wr => ∃ k : Nat, i = .int .i64 k ∧ k ≤ s.size ∧ (∀ j (hj : j < s.size), wr.cell? ⟨w.heap.size, j, none⟩ = some (.int .u8 (((if j < k then lowU (s[j]'hj) else s[j]'hj).toNat : Nat) : Int)) ∧ wr.frozen? ⟨w.heap.size, j, none⟩ = false) ∧ Below w.heap.size w wr) (fun i _ => s.size - (intOf i).toNat)
  case atStart =>
    refine ⟨0, rfl, by omega, fun j hj => ⟨?_, HF.out j hj⟩, hbel⟩
    rw [HC.out j hj, if_neg (by omega)]
    congr 3
    have : j < s.data.toList.length := by rw [← sz_list]; exact hj
    rw [List.getD_eq_getElem?_getD, List.getElem?_eq_getElem this, at_list s j hj]; rfl
  case round =>
    obtain ⟨k, rfl, hk, hrow, hB⟩ := hrel
    have HR := Lib.hid hrow
    clear hrow
    by_cases hlt : k < s.size
    · have hlt' : (k : Int) < s.size := by omega
      obtain ⟨hc, hf⟩ := HR.out k hlt
      rw [if_neg (by omega)] at hc
      obtain ⟨x, hx⟩ : ∃ x, s[k]'hlt = x := ⟨_, rfl⟩
      rw [hx] at hc
      have hbd := UInt8.toNat_lt x
      by_cases h1 : 65 ≤ x.toNat ∧ x.toNat ≤ 90
      · have hlow := lowU_in x h1.1 h1.2
        have h1a : (65 : Int) ≤ x.toNat := by omega
        have h1b : (x.toNat : Int) ≤ 90 := by omega
        have HW := Lib.hid (And.intro hx hlow)
        clear hlow h1 hx
        go_wp2
        go_roundw
        case rel =>
          refine ⟨k + 1, by go_num, by omega, fun j hj => ?_, by (repeat (first | (with_reducible exact Below.refl _ _) | ((with_reducible refine below_alloc ?_ ?_ _); · (first | omega | (simp; done) | (simp; omega))) | ((with_reducible refine below_setCell ?_ ?_ _); · (first | omega | (simp; done) | (simp; omega))) | (with_reducible refine Below.drew ?_) | (with_reducible refine below_drewN ?_ _) | ((with_reducible refine below_call (by assumption) ?_ ?_); · (first | omega | (simp; done) | (simp; omega)))))⟩
          by_cases e : j = k
          · subst e
            rw [if_pos (by omega), HW.out.1]
            refine ⟨?_, by rw [World.frozen?_setCell]; exact hf⟩
            rw [World.cell?_setCell_same _ _ _ hc, HW.out.2]
            congr 2; omega
          · obtain ⟨g1, g2⟩ := HR.out j hj
            refine ⟨?_, by rw [World.frozen?_setCell]; exact g2⟩
            rw [World.cell?_setCell_other _ _ _ _ (show (⟨w.heap.size, k, none⟩ : Addr) ≠ ⟨w.heap.size, j, none⟩ from fun h => e (by cases h; rfl)), g1]
            by_cases e2 : j < k
            · rw [if_pos e2, if_pos (by omega)]
            · rw [if_neg e2, if_neg (by omega)]
        case measure => simp [intOf]; omega
      · have hlow := lowU_out x h1
        have HW := Lib.hid (And.intro hx hlow)
        have fin : ∀ j (hj : j < s.size), wr.cell? ⟨w.heap.size, j, none⟩ = some (.int .u8 (((if j < k + 1 then lowU (s[j]'hj) else s[j]'hj).toNat : Nat) : Int)) ∧ wr.frozen? ⟨w.heap.size, j, none⟩ = false := fun j hj => by
          obtain ⟨g1, g2⟩ := HR.out j hj
          refine ⟨?_, g2⟩
          rw [g1]
          by_cases e : j = k
          · subst e; rw [if_neg (by omega), if_pos (by omega), HW.out.1, HW.out.2]
          · by_cases e2 : j < k
            · rw [if_pos e2, if_pos (by omega)]
            · rw [if_neg e2, if_neg (by omega)]
        have FN := Lib.hid fin
        clear fin hlow hx
        by_cases h2 : (65 : Int) ≤ x.toNat
        · have h3 : (90 : Int) < x.toNat := by omega
          clear h1
          go_wp2
          go_roundw
          case rel => exact ⟨k + 1, by go_num, by omega, FN.out, hB⟩
          case measure => simp [intOf]; omega
        · have h3 : (x.toNat : Int) < 65 := by omega
          clear h1 h2
          go_wp2
          go_roundw
          case rel => exact ⟨k + 1, by go_num, by omega, FN.out, hB⟩
          case measure => simp [intOf]; omega
    · obtain rfl : k = s.size := by omega
      have hlen := lowL_len s
      have hb : Lib.Bytes wr w.heap.size 0 ⟨(lowL s.data.toList).toArray⟩ := by
        intro i hi
        have hi' : i < s.size := by rw [size_mk, hlen] at hi; exact hi
        have := (HR.out i hi').1
        rw [if_pos hi'] at this
        rw [Nat.zero_add, this]
        congr 3
        exact congrArg UInt8.toNat (lowL_at s i hi').symm
      have hst := Lib.run_convert_whole (P := Tryd.prog) wr 61 5 9 Tryd.underlying61 Tryd.underlying5 Tryd.underlying9 w.heap.size 0 ⟨(lowL s.data.toList).toArray⟩ hb cap
      rw [size_mk, hlen] at hst
      clear hlen hb
      go_wp2
      go_ret
      exact ⟨rfl, hB⟩
end Go.Proofs.YtackinamkibmlaaDoor
