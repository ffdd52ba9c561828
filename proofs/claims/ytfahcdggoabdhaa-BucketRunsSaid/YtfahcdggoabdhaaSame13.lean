/- The contract of the document's SameBools. -/
import Derived.Test.YtfahcdggoabdhaaKitBo
import Derived.Deep.QuietTactic
import Derived.BigQuiet
namespace Go.Proofs.Ytfahcdggoabdhaa
open Go.RowKit
set_option linter.unusedVariables false
set_option linter.unusedSimpArgs false

def sameO (a b : List Bool) : Bool := decide (a = b)
theorem sameO_len {a b : List Bool} (h : a.length ≠ b.length) : sameO a b = false := by
  simp [sameO]; intro e; exact h (by rw [e])
theorem sameO_at {a b : List Bool} {k : Nat} (h1 : k < a.length) (h2 : k < b.length) (h : a[k] ≠ b[k]) : sameO a b = false := by
  simp [sameO]; intro e; subst e; exact h rfl
theorem sameO_all {a b : List Bool} (h : a.length = b.length) (he : ∀ j (h1 : j < a.length) (h2 : j < b.length), a[j] = b[j]) : sameO a b = true := by
  simp [sameO]; exact List.ext_getElem h he

set_option maxHeartbeats 1000000 in
theorem sameBools_any (v1 v2 : Value) (a b : List Bool) (w : World) (hv1 : IsBo w v1 a) (hv2 : IsBo w v2 b) (ha : a.length ≤ 9223372036854775807) :
    Calls Try.prog 22 #[v1, v2] w fun e w' => e = .returned (.bool (sameO a b)) ∧ Below w.heap.size w w' := by
  obtain ⟨p1, cap1, rfl, hp1⟩ := hv1
  obtain ⟨p2, cap2, rfl, hp2⟩ := hv2
  by_cases hl : a.length = b.length
  · have H1 := Lib.hid hp1
    have H2 := Lib.hid hp2
    have HL := Lib.hid hl
    rw [← hl]
    have hl1 : ((a.length : Int) != a.length) = false := by simp
    clear hp1 hp2 hl
    go_enter Try.func22, Try.ntmps22
    go_wp2
    go_loopw [5] (fun i wr => ∃ k : Nat, k ≤ a.length ∧ i = .int .i64 k ∧ (∀ j (hj : j < k) (h1 : j < a.length) (h2 : j < b.length), a[j] = b[j]) ∧ Below w.heap.size w wr) (fun i _ => a.length - (intOf i).toNat)
    case atStart => exact ⟨0, by omega, rfl, fun j hj => by omega, Below.refl _ _⟩
    case round =>
      obtain ⟨k, hk, rfl, hok, hB⟩ := hrel
      have HO := Lib.hid hok
      clear hok hl1
      by_cases hlt : k < a.length
      · have hlt' : (k : Int) < a.length := by omega
        have hlt2 : k < b.length := by have := HL.out; omega
        obtain ⟨b1, o1, rfl, d1⟩ := H1.out k hlt
        obtain ⟨b2, o2, rfl, d2⟩ := H2.out k hlt2
        have c1 : wr.cell? ⟨b1, o1 + k, none⟩ = some (.bool a[k]) := (hB.cell (p := ⟨b1, o1 + k, none⟩) (World.block_lt_of_cell? _ _ d1)).trans d1
        have c2 : wr.cell? ⟨b2, o2 + k, none⟩ = some (.bool b[k]) := (hB.cell (p := ⟨b2, o2 + k, none⟩) (World.block_lt_of_cell? _ _ d2)).trans d2
        clear d1 d2
        by_cases he : a[k] = b[k]
        · have HE := Lib.hid he
          rw [← he] at c2
          clear he
          go_wp2
          go_quiet (fail)
          go_wp2
          go_roundw
          case rel => exact ⟨k + 1, by omega, by go_num, (fun j hj h1 h2 => by
            by_cases e : j = k
            · subst e; exact HE.out
            · exact HO.out j (by omega) h1 h2), ⟨hB.os, hB.tape, hB.output, hB.size, hB.block⟩⟩
          case measure => simp [intOf]; omega
        · have HE := Lib.hid he
          have he1 : (a[k] == b[k]) = false := by simp [he]
          clear he
          go_wp2
          go_quiet (fail)
          go_wp2
          go_ret
          exact ⟨ret_bool (sameO_at hlt hlt2 HE.out).symm, ⟨hB.os, hB.tape, hB.output, hB.size, hB.block⟩⟩
      · obtain rfl : k = a.length := by omega
        go_wp2
        go_ret
        exact ⟨ret_bool (sameO_all HL.out (fun j h1 h2 => HO.out j h1 h1 h2)).symm, hB⟩
  · have E := Lib.hid (sameO_len hl)
    have hl1 : ((a.length : Int) != b.length) = true := by simp; omega
    clear hp1 hp2 hl
    go_enter Try.func22, Try.ntmps22
    go_wp2
    go_ret
    exact ⟨ret_bool E.out.symm, Below.refl _ _⟩
end Go.Proofs.Ytfahcdggoabdhaa
