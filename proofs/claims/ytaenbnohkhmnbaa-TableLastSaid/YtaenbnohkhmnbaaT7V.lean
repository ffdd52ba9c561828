/- Layer 7: the statements' entries, the document's SameEntries. -/
import Derived.Test.YtaenbnohkhmnbaaT7T
namespace Go.Proofs.Ytaenbnohkhmnbaa
open Go.RowKit
set_option linter.unusedVariables false
set_option linter.unusedSimpArgs false

theorem info_entR : (Try.prog.info? 56).map (fun i => (i.zero, i.size, i.bytes)) = some (some (.agg #[.string ⟨#[]⟩, .int .i64 0]), 2, 24) := by kernel_rfl
theorem take_snocE (L : List Ent) (k : Nat) (h : k < L.length) : L.take (k + 1) = L.take k ++ [L[k]] := by
  rw [List.take_succ_eq_append_getElem h]
set_option maxRecDepth 100000 in
set_option maxHeartbeats 4000000 in
theorem entries_any (b cap : Nat) (L : List Ent) (w : World) (H : RowE w b L) (hb : b < w.heap.size) (hL : L.length ≤ 256) (h0 : 0 < L.length) :
    Calls Try.prog 21 #[.slice (some ⟨b, 0, none⟩) L.length cap] w fun e w' => ∃ b2 cap2, e = .returned (.slice (some ⟨b2, 0, none⟩) L.length cap2) ∧ w.heap.size ≤ b2 ∧ b2 < w'.heap.size ∧ RowE w' b2 L ∧ Below w.heap.size w w' := by
  obtain ⟨i1, hi1, hk0, hk1, hk2⟩ := info_parts info_entR
  have HR := Lib.hid H
  have HLn := Lib.hid (And.intro hL h0)
  have hL' : (L.length : Int) ≤ 256 := by omega
  clear H hL h0
  go_enter Try.func21, Try.ntmps21
  go_wp2
  go_loopw [3, 4] (fun v i wr => ∃ (k : Nat) (ao : Option Addr) (cp : Nat), i = .int .i64 k ∧ v = .slice ao k cp ∧ k ≤ L.length ∧ Hid (wr.ownsRow w.heap.size 56 2 (.slice ao k cp) k (flatE (L.take k))) ∧ Hid (Below w.heap.size w wr)) (fun _ i _ => L.length - (intOf i).toNat)
  case atStart => exact ⟨0, none, 0, rfl, rfl, Nat.zero_le _, Lib.hid (World.ownsRow_nil _ _ _ _), Lib.hid (Below.refl _ _)⟩
  case round =>
    obtain ⟨k, ao, cp, rfl, rfl, hk, HO, HB⟩ := hrel
    by_cases hlt : k < L.length
    · have hlt' : (k : Int) < L.length := by omega
      have H2 := HR.out.far HB.out hb
      have k0 := H2.k0 k hlt
      have k1 := H2.k1 k hlt
      have HES := Lib.hid (take_snocE L k hlt)
      have hz := HB.out.size
      obtain ⟨e, he⟩ : ∃ e, L[k] = e := ⟨_, rfl⟩
      rw [he] at k0 k1 HES
      clear H2 he
      go_wp2_with (at_builtin; refine wpList_append_own _ rfl _ _ 52 rfl w.heap.size 56 i1 (.agg #[.string ⟨#[]⟩, .int .i64 0]) 2 24 Try.underlying52 hi1 hk0 hk1 hk2 rfl (by decide) _ k (flatE (L.take k)) rfl (World.ownsRow.alloc HO.out _) ⟨wr.heap.size, 0, none⟩ 1 1 [Value.string e.1, Value.int .i64 e.2] rfl rfl (cell_two_new wr _ _ _) (by simp [Value.oneCell']) (by have := HLn.out; unfold maxLen; omega) (by have := HLn.out; omega) (by simp; omega) ?_; intro v' w4 hown' hgr _)
      have hb4 : Below w.heap.size wr w4 := ((Below.refl w.heap.size wr).alloc hz (.cells #[.string e.1, .int .i64 e.2] 56)).grown hgr (by simp; omega) (fun q hq => (World.ownsRow.lt HO.out q hq).1)
      obtain ⟨ap, cq, hve⟩ := row_form hown'
      subst hve
      have HO2 := Lib.hid (show w4.ownsRow w.heap.size 56 2 (.slice ap (k + 1) cq) (k + 1) (flatE (L.take (k + 1))) by rw [HES.out, flatE_snoc]; exact hown')
      have HB2 := Lib.hid (HB.out.trans hb4)
      clear hown' hgr hb4
      go_wp2
      go_roundw
      case rel => exact ⟨k + 1, ap, cq, by go_num, rfl, by omega, HO2, HB2⟩
      case measure => simp [intOf]; omega
    · obtain rfl : k = L.length := by omega
      have hO := HO.out
      rw [List.take_length] at hO
      obtain ⟨b2, cap2, hv, hBb, hbl, hrow⟩ := OwnE.row (L := L) hO HLn.out.2
      cases hv
      have HX := Lib.hid (And.intro hBb (And.intro hbl hrow))
      clear hO hBb hbl hrow
      go_wp2
      go_ret
      exact ⟨b2, cp, rfl, HX.out.1, HX.out.2.1, HX.out.2.2, HB.out⟩

set_option maxRecDepth 100000 in
set_option maxHeartbeats 4000000 in
theorem sameEntries_yes (b1 b2 cap1 cap2 : Nat) (L : List Ent) (w : World) (H1 : RowE w b1 L) (H2 : RowE w b2 L) (hL : L.length ≤ 256) :
    Calls Try.prog 22 #[.slice (some ⟨b1, 0, none⟩) L.length cap1, .slice (some ⟨b2, 0, none⟩) L.length cap2] w fun e w' => e = .returned (.bool true) ∧ Below w.heap.size w w' := by
  have HR := Lib.hid (And.intro H1 H2)
  clear H1 H2
  go_enter Try.func22, Try.ntmps22
  go_wp2
  go_loopw [5] (fun i wr => ∃ (k : Nat), i = .int .i64 k ∧ k ≤ L.length ∧ ∃ nq, wr = w.drewN nq) (fun i _ => L.length - (intOf i).toNat)
  case atStart => exact ⟨0, rfl, Nat.zero_le _, 0, rfl⟩
  case round =>
    obtain ⟨k, rfl, hk, nq, rfl⟩ := hrel
    by_cases hlt : k < L.length
    · have hlt' : (k : Int) < L.length := by omega
      have k0 := HR.out.1.k0 k hlt
      have k1 := HR.out.1.k1 k hlt
      have j0 := HR.out.2.k0 k hlt
      have j1 := HR.out.2.k1 k hlt
      obtain ⟨e, he⟩ : ∃ e, L[k] = e := ⟨_, rfl⟩
      rw [he] at k0 k1 j0 j1
      have hs : (e.1.toList == e.1.toList) = true := by rw [str_beq]; simp
      have hw : IntKind.i64.wrap ((k : Int) + 1) = ((k + 1 : Nat) : Int) := by rw [IntWalk.i64_in _ (by omega)]; omega
      clear he
      go_wp2
      go_quiet (fail)
      go_wp2
      go_roundw
      case rel => exact ⟨k + 1, rfl, by omega, _, rfl⟩
      case measure => simp [intOf]; omega
    · obtain rfl : k = L.length := by omega
      go_wp2
      go_ret
      exact ⟨rfl, below_drewN (Below.refl _ _) _⟩
end Go.Proofs.Ytaenbnohkhmnbaa
