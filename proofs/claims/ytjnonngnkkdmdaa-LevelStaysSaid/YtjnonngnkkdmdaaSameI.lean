/- The contract of the document's SameInts. -/
import Derived.Test.YtjnonngnkkdmdaaKitI
import Derived.Deep.QuietTactic
import Derived.BigQuiet
namespace Go.Proofs.Ytjnonngnkkdmdaa
open Go.RowKit
set_option linter.unusedVariables false
set_option linter.unusedSimpArgs false

def sameIB (a b : List Int) : Bool := decide (a = b)
theorem sameIB_len {a b : List Int} (h : a.length ≠ b.length) : sameIB a b = false := by
  simp [sameIB]; intro e; exact h (by rw [e])
theorem sameIB_at {a b : List Int} {k : Nat} (h1 : k < a.length) (h2 : k < b.length) (h : a[k] ≠ b[k]) : sameIB a b = false := by
  simp [sameIB]; intro e; subst e; exact h rfl
theorem sameIB_all {a b : List Int} (h : a.length = b.length) (he : ∀ j (h1 : j < a.length) (h2 : j < b.length), a[j] = b[j]) : sameIB a b = true := by
  simp [sameIB]; exact List.ext_getElem h he
theorem sameIB_self (a : List Int) : sameIB a a = true := by simp [sameIB]

set_option maxHeartbeats 1000000 in
theorem sameInts_any (v1 v2 : Value) (a b : List Int) (w : World) (hv1 : IsI w v1 a) (hv2 : IsI w v2 b) (ha : a.length ≤ 9223372036854775807) :
    Calls Try.prog 18 #[v1, v2] w fun e w' => e = .returned (.bool (sameIB a b)) ∧ Below w.heap.size w w' := by
  obtain ⟨p1, cap1, rfl, hp1⟩ := hv1
  obtain ⟨p2, cap2, rfl, hp2⟩ := hv2
  by_cases hl : a.length = b.length
  · have H1 := Lib.hid hp1
    have H2 := Lib.hid hp2
    have HL := Lib.hid hl
    rw [← hl]
    have hl1 : ((a.length : Int) != a.length) = false := by simp
    clear hp1 hp2 hl
    go_enter Try.func18, Try.ntmps18
    go_wp2
    go_loopw [5] (fun i wr => ∃ k : Nat, k ≤ a.length ∧ i = .int .i64 k ∧ (∀ j (hj : j < k) (h1 : j < a.length) (h2 : j < b.length), a[j] = b[j]) ∧ Below w.heap.size w wr) (fun i _ => a.length - (intOf i).toNat)
    case atStart => exact ⟨0, by omega, rfl, fun j hj => by omega, Below.refl _ _⟩
    case round =>
      obtain ⟨k, hk, rfl, hok, hB⟩ := hrel
      have HO := Lib.hid hok
      clear hok hl1
      by_cases hlt : k < a.length
      · have hlt' : (k : Int) < a.length := by omega
        have hlt2 : k < b.length := by have := HL.out; omega
        obtain ⟨b1, o1, rfl, d1⟩ := H1.out k hlt
        obtain ⟨b2, o2, rfl, d2⟩ := H2.out k hlt2
        have c1 : wr.cell? ⟨b1, o1 + k, none⟩ = some (.int .i64 a[k]) := (hB.cell (p := ⟨b1, o1 + k, none⟩) (World.block_lt_of_cell? _ _ d1)).trans d1
        have c2 : wr.cell? ⟨b2, o2 + k, none⟩ = some (.int .i64 b[k]) := (hB.cell (p := ⟨b2, o2 + k, none⟩) (World.block_lt_of_cell? _ _ d2)).trans d2
        clear d1 d2
        by_cases he : a[k] = b[k]
        · have HE := Lib.hid he
          rw [← he] at c2
          clear he
          obtain ⟨x, hx⟩ : ∃ x, a[k] = x := ⟨_, rfl⟩
          rw [hx] at c1 c2
          clear hx
          go_wp2
          go_quiet (fail)
          go_wp2
          go_roundw
          case rel => exact ⟨k + 1, by omega, by go_num, (fun j hj h1 h2 => by
            by_cases e : j = k
            · subst e; exact HE.out
            · exact HO.out j (by omega) h1 h2), ⟨hB.os, hB.tape, hB.output, hB.size, hB.block⟩⟩
          case measure => simp [intOf]; omega
        · have HE := Lib.hid he
          obtain ⟨x, hx⟩ : ∃ x, a[k] = x := ⟨_, rfl⟩
          obtain ⟨y, hy⟩ : ∃ y, b[k] = y := ⟨_, rfl⟩
          rw [hx] at c1
          rw [hy] at c2
          have he1 : (x == y) = false := by rw [← hx, ← hy]; simpa using he
          have he2 : (x != y) = true := by simp only [bne, he1]; rfl
          clear he hx hy
          go_wp2
          go_quiet (fail)
          go_wp2
          go_ret
          exact ⟨ret_bool (sameIB_at hlt hlt2 HE.out).symm, ⟨hB.os, hB.tape, hB.output, hB.size, hB.block⟩⟩
      · obtain rfl : k = a.length := by omega
        go_wp2
        go_ret
        exact ⟨ret_bool (sameIB_all HL.out (fun j h1 h2 => HO.out j h1 h1 h2)).symm, hB⟩
  · have E := Lib.hid (sameIB_len hl)
    have hl1 : ((a.length : Int) != b.length) = true := by simp; omega
    clear hp1 hp2 hl
    go_enter Try.func18, Try.ntmps18
    go_wp2
    go_ret
    exact ⟨ret_bool E.out.symm, Below.refl _ _⟩
end Go.Proofs.Ytjnonngnkkdmdaa
