/- Contracts of layer 3, the document's: the place of a handle. -/
import Derived.Test.YtmnlpmfkoammhaaKitC3
import Derived.Deep.QuietTactic
import Derived.BigQuiet
namespace Go.Proofs.Ytmnlpmfkoammhaa
open Go.RowKit
set_option linter.unusedVariables false
set_option linter.unusedSimpArgs false

set_option maxRecDepth 100000 in
set_option maxHeartbeats 2000000 in
theorem refplace_any (vc vf : Value) (st : St) (h : Int) (w : World) (hv : IsC w vc st.1) (hl : st.1.length ≤ 1048576) :
    Calls Try.prog 38 #[.agg #[vc, vf], .int .i64 h] w fun e w' => e = .returned (.int .i64 (placeN st.1 h)) ∧ Below w.heap.size w w' := by
  obtain ⟨l, fr⟩ := st
  obtain ⟨p, cap, rfl, hp⟩ := hv
  have Hp := Lib.hid hp
  clear hp
  go_enter Try.func38, Try.ntmps38
  go_wp2
  obtain ⟨W, hW⟩ : ∃ W, w.alloc (.cells #[.slice p l.length cap, vf] 25) = W := ⟨_, rfl⟩
  have e0 : W.cell? ⟨w.heap.size, 0, none⟩ = some (.slice p l.length cap) := by rw [← hW]; simp [go_sem]
  have hB : Below w.heap.size w W := by rw [← hW]; exact (Below.refl _ _).alloc (Nat.le_refl _) _
  rw [hW]
  clear hW
  go_loop [5] (fun i => ∃ k : Nat, i = .int .i64 k ∧ k ≤ l.length ∧ placeN l h = placeF (l.drop k) h k) (fun i => l.length - (intOf i).toNat)
  case atStart => exact ⟨0, rfl, by omega, rfl⟩
  case round =>
    obtain ⟨k, rfl, hk, hpl⟩ := hrel
    have HP := Lib.hid hpl
    clear hpl
    by_cases hlt : k < l.length
    · have hlt' : (k : Int) < l.length := by omega
      have hk' : (k : Int) ≤ 1048576 := by omega
      obtain ⟨b, off, rfl, h0, h1, h2⟩ := Hp.out k hlt
      have c0 : W.cell? ⟨b, off + k * 3, none⟩ = some (.int .i64 l[k].1) := (hB.cell (p := ⟨b, off + k * 3, none⟩) (World.block_lt_of_cell? _ _ h0)).trans h0
      have c1 : W.cell? ⟨b, off + k * 3 + 1, none⟩ = some (.bool l[k].2.1) := (hB.cell (p := ⟨b, off + k * 3 + 1, none⟩) (World.block_lt_of_cell? _ _ h1)).trans h1
      have hstep := placeF_drop l h k hlt
      clear h0 h1 h2
      obtain ⟨g, hg⟩ : ∃ g, l[k].1 = g := ⟨_, rfl⟩
      obtain ⟨v, hv⟩ : ∃ v, l[k].2.1 = v := ⟨_, rfl⟩
      unfold hasH at hstep
      rw [hg] at c0 hstep
      rw [hv] at c1 hstep
      have HS := Lib.hid hstep
      clear hstep hg hv
      cases v
      · go_wp2
        go_round
        case rel => exact ⟨k + 1, by go_num, by omega, by rw [HP.out, HS.out]; rfl⟩
        case measure => simp [intOf]; omega
      · by_cases he : wrap64 (wrap64 (64 * g) + k) = h
        · have he1 : (wrap64 (wrap64 (64 * g) + k) == h) = true := by simpa using he
          have HE := Lib.hid he
          clear he
          go_wp2
          go_ret
          exact ⟨ret_int (by rw [HP.out, HS.out, if_pos (by simp [HE.out])]), hB⟩
        · have he1 : (wrap64 (wrap64 (64 * g) + k) == h) = false := by simpa using he
          have HE := Lib.hid he
          clear he
          go_wp2
          go_round
          case rel => exact ⟨k + 1, by go_num, by omega, by rw [HP.out, HS.out, if_neg (by simpa using HE.out)]⟩
          case measure => simp [intOf]; omega
    · obtain rfl : k = l.length := by omega
      go_wp2
      go_ret
      refine ⟨ret_int ?_, hB⟩
      rw [HP.out, List.drop_length]; rfl
end Go.Proofs.Ytmnlpmfkoammhaa
