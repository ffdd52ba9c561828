/- Layer 3: what a region that draws its order keeps; the lengths of what is handed back. -/
import Derived.Test.YtmnlpmfkoammhaaP5A
namespace Go.Proofs.Ytmnlpmfkoammhaa
open Go.RowKit
set_option linter.unusedVariables false
set_option linter.unusedSimpArgs false

/-- all that lay in W lies in w' as it did -/
def Fr (W w : World) : Prop := Below W.heap.size W w
theorem Fr.call {W w w1 : World} (h : Fr W w) (hb : Below w.heap.size w w1) : Fr W w1 := Below.trans h (hb.mono (Below.size h))
theorem Fr.fin {w W w' : World} (hB : Below w.heap.size w W) (h : Fr W w') : Below w.heap.size w w' := Below.trans hB (Below.mono h (Below.size hB))
theorem takeN_len (st : St) (v : Int) : (takeN st v).1.1.length ≤ st.1.length ∧ (takeN st v).1.2.length ≤ st.2.length := by
  unfold takeN
  split
  · exact ⟨Nat.le_refl _, Nat.le_refl _⟩
  · split
    · exact ⟨Nat.le_refl _, Nat.le_refl _⟩
    · exact ⟨by simp, by simp⟩
theorem giveN_len (st : St) (h : Int) : (giveN st h).1.1.length ≤ st.1.length ∧ (giveN st h).1.2.length ≤ st.2.length + 1 := by
  unfold giveN
  split
  · exact ⟨Nat.le_refl _, by simp⟩
  · split
    · exact ⟨Nat.le_refl _, by simp⟩
    · refine ⟨by simp, ?_⟩
      dsimp only
      split <;> simp
theorem setN_len (st : St) (h v : Int) : (setN st h v).1.1.length ≤ st.1.length ∧ (setN st h v).1.2.length ≤ st.2.length := by
  unfold setN
  split
  · exact ⟨Nat.le_refl _, Nat.le_refl _⟩
  · split
    · exact ⟨Nat.le_refl _, Nat.le_refl _⟩
    · exact ⟨by simp, Nat.le_refl _⟩

theorem newN_len (n : Int) : (newN n).1.1.length ≤ 64 ∧ (newN n).1.2.length ≤ 64 := by
  unfold newN
  split
  · exact ⟨by simp, by simp⟩
  · exact ⟨by simp; omega, by rw [freeL_len]; omega⟩
end Go.Proofs.Ytmnlpmfkoammhaa
