/- Layer 11, the program's: a text's frame; how long it is; the first frame of bytes. -/
import Derived.Test.YtbaclfpkaobggaaR11C
import Derived.Test.YtbaclfpkaobggaaOctD
import Derived.Test.YtbaclfpkaobggaaOctG
import Derived.Test.YtbaclfpkaobggaaClone
namespace Go.Proofs.Ytbaclfpkaobggaa
open Go.RowKit
set_option linter.unusedVariables false
set_option linter.unusedSimpArgs false

/-- what is wrong with a text of so many bytes -/
def lnE (n : Int) : Int := if n = 0 then 4 else if 128 < n then 5 else 0
theorem lnE_sz (s : ByteArray) : lnE s.size = fpE s := by
  unfold lnE fpE
  by_cases h : s.size = 0
  · rw [if_pos (by omega), if_pos h]
  · rw [if_neg (by omega), if_neg h]
    by_cases h2 : 128 < s.size
    · rw [if_pos (by omega), if_pos h2]
    · rw [if_neg (by omega), if_neg h2]
theorem clen_any (n : Int) (w : World) (h0 : 0 ≤ n) :
    Calls Try.prog 25 #[.int .i64 n] w fun e w' => e = .returned (.int .i64 (lnE n)) ∧ Below w.heap.size w w' := by
  by_cases h : n = 0
  · subst h
    go_enter Try.func25, Try.ntmps25
    go_wp2
    go_ret
    exact ⟨rfl, by (repeat (first | (with_reducible exact Below.refl _ _) | ((with_reducible refine below_alloc ?_ ?_ _); · (first | omega | (simp; done) | (simp; omega))) | ((with_reducible refine below_setCell ?_ ?_ _); · (first | omega | (simp; done) | (simp; omega))) | (with_reducible refine Below.drew ?_) | (with_reducible refine below_drewN ?_ _) | ((with_reducible refine below_call (by assumption) ?_ ?_); · (first | omega | (simp; done) | (simp; omega)))))⟩
  have hb : (n == 0) = false := by simpa using h
  by_cases h2 : (128 : Int) < n
  · have HE : Hid (lnE n = 5) := Lib.hid (by unfold lnE; rw [if_neg h, if_pos h2])
    go_enter Try.func25, Try.ntmps25
    go_wp2
    go_ret
    exact ⟨ret_int (by rw [HE.out]), by (repeat (first | (with_reducible exact Below.refl _ _) | ((with_reducible refine below_alloc ?_ ?_ _); · (first | omega | (simp; done) | (simp; omega))) | ((with_reducible refine below_setCell ?_ ?_ _); · (first | omega | (simp; done) | (simp; omega))) | (with_reducible refine Below.drew ?_) | (with_reducible refine below_drewN ?_ _) | ((with_reducible refine below_call (by assumption) ?_ ?_); · (first | omega | (simp; done) | (simp; omega)))))⟩
  have HE : Hid (lnE n = 0) := Lib.hid (by unfold lnE; rw [if_neg h, if_neg h2])
  go_enter Try.func25, Try.ntmps25
  go_wp2
  go_ret
  exact ⟨ret_int (by rw [HE.out]), by (repeat (first | (with_reducible exact Below.refl _ _) | ((with_reducible refine below_alloc ?_ ?_ _); · (first | omega | (simp; done) | (simp; omega))) | ((with_reducible refine below_setCell ?_ ?_ _); · (first | omega | (simp; done) | (simp; omega))) | (with_reducible refine Below.drew ?_) | (with_reducible refine below_drewN ?_ _) | ((with_reducible refine below_call (by assumption) ?_ ?_); · (first | omega | (simp; done) | (simp; omega)))))⟩
set_option maxRecDepth 100000 in
theorem fsize_any (s : ByteArray) (w : World) (hs : s.size ≤ 1000000) :
    Calls Try.prog 17 #[.string s] w fun e w' => e = .returned (.int .i64 (fsz s : Int)) ∧ Below w.heap.size w w' := by
  have c := Lib.hid (clen_any s.size w (by omega))
  rw [lnE_sz] at c
  by_cases ho : okF s
  · rw [fpE_ok.2 ho] at c
    have HZ : Hid (fsz s = s.size + 2) := Lib.hid (fsz_ok ho)
    have hw : IntKind.i64.wrap ((2 : Int) + (s.size : Int)) = ((s.size + 2 : Nat) : Int) := by rw [IntWalk.i64_in _ (by omega)]; omega
    go_enter Try.func17, Try.ntmps17
    go_wp2_with fail
    refine c.out.mono ?_; rintro e w1 ⟨rfl, hb1⟩
    go_wp2
    go_ret
    exact ⟨ret_int (by rw [HZ.out]; omega), hb1⟩
  · have hE : fpE s ≠ 0 := fun h => ho (fpE_ok.1 h)
    have e0 : (fpE s != 0) = true := by simp [hE]
    have HZ : Hid (fsz s = 0) := Lib.hid (fsz_no ho)
    generalize fpE s = E at c e0
    clear hE ho
    go_enter Try.func17, Try.ntmps17
    go_wp2_with fail
    refine c.out.mono ?_; rintro e w1 ⟨rfl, hb1⟩
    go_wp2
    go_ret
    exact ⟨ret_int (by rw [HZ.out]; rfl), hb1⟩
theorem lay2 {s : ByteArray} (ho : okF s) : layE s.size 2 = 0 ∧ fpT s = ⟨(layL s.size 2).toArray⟩ ++ s ∧ (layL s.size 2).length ≤ 2 := by
  have h1 := ho.1
  have h2 := ho.2
  have hE : layE s.size 2 = 0 := by
    unfold layE
    rw [if_neg (by decide), if_neg]
    intro h
    rcases h with h | h
    · omega
    · rw [show ((2 : Int).toNat) = 2 from rfl] at h
      have : (256 : Int) ^ 2 = 65536 := by decide
      rw [this] at h
      omega
  refine ⟨hE, ?_⟩
  have hL : layL s.size 2 = [UInt8.ofNat (s.size / 256), UInt8.ofNat (s.size % 256)] := by
    unfold layL
    rw [if_pos hE]
    show [dig s.size 1, dig s.size 0] = _
    unfold dig
    have a1 : ((s.size : Int) / 256 ^ 1 % 256).toNat = s.size / 256 := by
      rw [show (256 : Int) ^ 1 = 256 by decide]
      omega
    have a0 : ((s.size : Int) / 256 ^ 0 % 256).toNat = s.size % 256 := by
      rw [show (256 : Int) ^ 0 = 1 by decide]
      omega
    rw [a1, a0]
  rw [hL]
  refine ⟨?_, by simp⟩
  rw [fpT_ok ho]
  apply ByteArray.ext
  apply Array.toList_inj.1
  simp [frmB]
set_option maxRecDepth 100000 in
set_option maxHeartbeats 1000000 in
theorem fput_any (s : ByteArray) (w : World) (hs : s.size ≤ 1000000) :
    Calls Try.prog 15 #[.string s] w fun e w' => e = .returned (.tuple #[.string (fpT s), .int .i64 (fpE s)]) ∧ Below w.heap.size w w' := by
  have c := Lib.hid (clen_any s.size w (by omega))
  rw [lnE_sz] at c
  by_cases ho : okF s
  · rw [fpE_ok.2 ho] at c
    have HE : Hid (fpE s = 0) := Lib.hid (fpE_ok.2 ho)
    obtain ⟨hE, hT, hl⟩ := lay2 ho
    have HT := Lib.hid hT
    have hz := ho.2
    have c2 := Lib.hid (fun W => lay_any s.size 2 W (by omega) (by omega))
    rw [hE] at c2
    generalize layL s.size 2 = L at c2 HT hl
    clear ho hE hT
    go_enter Try.func15, Try.ntmps15
    go_wp2_with fail
    refine c.out.mono ?_; rintro e w1 ⟨rfl, hb1⟩
    go_wp2_with fail
    refine (c2.out _).mono ?_; rintro e w2 ⟨v, rfl, hv, hb2⟩
    have hst := hv.str
    go_wp2
    go_ret2
    exact ⟨by rw [HT.out, HE.out]; rfl, hb1.trans (hb2.mono hb1.size)⟩
  · have hE : fpE s ≠ 0 := fun h => ho (fpE_ok.1 h)
    have e0 : (fpE s != 0) = true := by simp [hE]
    have HT : Hid (fpT s = ⟨#[]⟩) := Lib.hid (fpT_no ho)
    generalize fpE s = E at c e0 ⊢
    clear hE ho
    go_enter Try.func15, Try.ntmps15
    go_wp2_with fail
    refine c.out.mono ?_; rintro e w1 ⟨rfl, hb1⟩
    go_wp2
    go_ret2
    exact ⟨by rw [HT.out]; rfl, hb1⟩
theorem be2 {b : ByteArray} (h : 2 ≤ b.size) : be (cut b 0 2) = (lenG b.data.toList : Int) := by
  have k0 : 0 < b.size := by omega
  have k1 : 1 < b.size := by omega
  have e : cut b 0 2 = [b[0]'k0, b[1]'k1] := by
    have h1 := cut_succ (s := b) (a := 0) (k := 0) (by omega)
    have h2 := cut_succ (s := b) (a := 0) (k := 1) (by omega)
    rw [h2, h1]
    rfl
  rw [e]
  unfold lenG
  rw [getD0 b 0 k0, getD0 b 1 k1]
  simp [be]
theorem num2_cut {b : ByteArray} (h : b.size < 2) : numV b 0 0 2 = .tuple #[.agg #[.string b, .int .i64 0, .int .i64 3], .int .i64 0] :=
  numV_cut (by unfold chk; rw [if_neg (by omega)]) (by decide) (by omega)
theorem num2_ok {b : ByteArray} (h : 2 ≤ b.size) : numV b 0 0 2 = .tuple #[.agg #[.string b, .int .i64 2, .int .i64 0], .int .i64 (lenG b.data.toList : Int)] := by
  rw [numV_ok (by unfold chk; rw [if_neg (by omega)]) (by decide) (by omega), ← be2 h]
  rfl
end Go.Proofs.Ytbaclfpkaobggaa
