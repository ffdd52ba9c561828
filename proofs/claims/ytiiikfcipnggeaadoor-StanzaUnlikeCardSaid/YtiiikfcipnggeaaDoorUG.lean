/- Layer 2: a beginning of whole characters: the program's. -/
import Derived.Test.YtiiikfcipnggeaaDoorUE2
namespace Go.Proofs.YtiiikfcipnggeaaDoor
open Go.RowKit Go.Shelf
open Go.Lib (byteCells)
set_option linter.unusedVariables false
set_option linter.unusedSimpArgs false
attribute [local go_sem] Oper.semAt_some

def sumK : List Ch → Nat
  | [] => 0
  | x :: r => x.1.2 + sumK r
/-- how many bytes of these fit, e ahead of them -/
def cutN : List Ch → Int → Nat → Nat
  | [], _, e => e
  | x :: r, m, e => if m < (e : Int) + x.1.2 then e else cutN r m (e + x.1.2)
theorem sumK_app (a b : List Ch) : sumK (a ++ b) = sumK a + sumK b := by
  induction a with
  | nil => simp [sumK]
  | cons x r ih => simp only [List.cons_append, sumK, ih]; omega
theorem sumK_le (a : List Ch) : sumK a ≤ 4 * a.length := by
  induction a with
  | nil => simp [sumK]
  | cons x r ih => have := x.2.2.2; simp only [sumK, List.length_cons]; omega
theorem sumK_chs (l : List UInt8) : sumK (chs l) = l.length := by
  obtain ⟨n, hn⟩ : ∃ n, n = l.length := ⟨_, rfl⟩
  induction n using Nat.strongRecOn generalizing l with
  | _ n ih =>
    by_cases h : l = []
    · subst h; rfl
    · have hp := nxtK_pos l h
      rw [chs_cons l h]
      have := ih (l.drop (nxtK l)).length (by rw [List.length_drop]; omega) _ rfl
      rw [List.length_drop] at this
      show nxtK l + _ = _
      omega
theorem cutN_le (a : List Ch) (m : Int) : ∀ e, cutN a m e ≤ e + sumK a := by
  induction a with
  | nil => intro e; simp [cutN]
  | cons x r ih =>
    intro e
    simp only [cutN, sumK]
    split
    · omega
    · have := ih (e + x.1.2); omega
theorem cutN_chs (l : List UInt8) (m : Int) : cutN (chs l) m 0 ≤ l.length := by
  have := cutN_le (chs l) m 0
  rw [sumK_chs] at this; omega
/-- all of these have fitted -/
def Fits (pre : List Ch) (m : Int) : Prop := ∀ rest, cutN (pre ++ rest) m 0 = cutN rest m (sumK pre)
theorem Fits.nil (m : Int) : Fits [] m := fun rest => rfl
theorem Fits.snoc {pre : List Ch} {m : Int} (h : Fits pre m) {x : Ch} (hx : ¬ m < (sumK pre : Int) + x.1.2) : Fits (pre ++ [x]) m := by
  intro rest
  rw [List.append_assoc, h, sumK_app]
  show cutN (x :: rest) m _ = _
  simp only [cutN, if_neg hx, sumK, Nat.add_zero]
theorem Fits.stop {pre : List Ch} {m : Int} (h : Fits pre m) {x : Ch} (hx : m < (sumK pre : Int) + x.1.2) (rest : List Ch) : cutN (pre ++ [x] ++ rest) m 0 = sumK pre := by
  rw [List.append_assoc, h]
  show cutN (x :: rest) m _ = _
  simp only [cutN, if_pos hx]
theorem Fits.all {l : List UInt8} {m : Int} (h : Fits (chs l) m) : cutN (chs l) m 0 = sumK (chs l) := by
  have := h []
  rw [List.append_nil] at this
  exact this

end Go.Proofs.YtiiikfcipnggeaaDoor
