/- The contracts of Pack: octet's and the document's. -/
import Derived.Test.YtodebflmojincaaKitS
import Derived.Test.YtodebflmojincaaOctH
namespace Go.Proofs.Ytodebflmojincaa
open Go.RowKit
open Go.Lib (byteCells)
set_option linter.unusedVariables false
set_option linter.unusedSimpArgs false

def packE (l : List ByteArray) (m : Int) : Int := if 255 < l.length then 5 else if l.all (fun s => sayE s m == 0) = true then 0 else 5
def packB (l : List ByteArray) : List UInt8 := UInt8.ofNat l.length :: l.flatMap sayB
def packL (l : List ByteArray) (m : Int) : List UInt8 := if packE l m = 0 then packB l else []
theorem sayE_or (s : ByteArray) (m : Int) : sayE s m = 0 ∨ sayE s m = 5 := by unfold sayE; split <;> simp
theorem sayE_size {s : ByteArray} {m : Int} (h : sayE s m = 0) : s.size ≤ 255 := by
  unfold sayE at h; split at h
  · cases h
  · omega
/-- what has been packed of the first k -/
def packK (l : List ByteArray) (k : Nat) : List UInt8 := UInt8.ofNat l.length :: (l.take k).flatMap sayB
theorem packK_succ {l : List ByteArray} {k : Nat} (h : k < l.length) : packK l (k + 1) = packK l k ++ sayB l[k] := by
  unfold packK
  rw [List.take_succ_eq_append_getElem h, List.flatMap_append, List.flatMap_singleton, List.cons_append]
theorem packK_all (l : List ByteArray) : packK l l.length = packB l := by simp [packK, packB]
theorem packE_bad {l : List ByteArray} {m : Int} {k : Nat} (h : k < l.length) (he : sayE l[k] m ≠ 0) : packE l m = 5 := by
  unfold packE
  split
  · rfl
  · rw [if_neg]
    intro ha
    have := List.all_eq_true.1 ha l[k] (List.getElem_mem h)
    simp at this
    exact he this
theorem packE_ok {l : List ByteArray} {m : Int} (h : l.length ≤ 255) (he : ∀ j (hj : j < l.length), sayE l[j] m = 0) : packE l m = 0 := by
  unfold packE
  rw [if_neg (by omega), if_pos]
  rw [List.all_eq_true]
  intro s hs
  obtain ⟨j, hj, rfl⟩ := List.mem_iff_getElem.1 hs
  simp [he j hj]

set_option maxHeartbeats 1000000 in
theorem pack_any (v : Value) (l : List ByteArray) (m : Int) (w : World) (hv : IsS w v l) (hl : l.length ≤ 9223372036854775807) :
    Calls Try.prog 28 #[v, .int .i64 m] w (RetB w (packL l m) (packE l m)) := by
  obtain ⟨p, cap, rfl, hp⟩ := id hv
  by_cases h1 : 255 < l.length
  · have E : packE l m = 5 := by simp [packE, h1]
    have L : packL l m = [] := by simp [packL, E]
    rw [E, L]; clear E L hp
    have h1' : (255 : Int) < l.length := by omega
    go_enter Try.func28, Try.ntmps28
    go_wp2
    go_ret2
    exact RetB.mk (IsB.nil _ _) (Below.refl _ _)
  · have h1' : (l.length : Int) ≤ 255 := by omega
    have Hp := Lib.hid hp
    have HV := Lib.hid hv
    obtain ⟨i0, hi, hz0, hz1, hz2⟩ := info_parts info_u8
    clear hp hv
    go_enter Try.func28, Try.ntmps28
    go_wp2
    have h0 : IsB (w.alloc (.cells #[.int .u8 l.length] 5)) w.heap.size (.slice (some ⟨w.heap.size, 0, none⟩) 1 1) (packK l 0) := by
      have h := World.ownsRow_lit (base := w.heap.size) (e := 5) (size := 1) w #[Value.int .u8 (l.length : Int)] 1 (Nat.le_refl _) (by unfold maxLen; omega) rfl
      have e : byteCells (packK l 0) = [Value.int .u8 (l.length : Int)] := by
        have : (UInt8.ofNat l.length).toNat = l.length := by simp [UInt8.toNat_ofNat]; omega
        simp [packK, byteCells, this]
      show World.ownsRow _ _ _ _ _ (packK l 0).length (byteCells (packK l 0))
      rw [e]; exact h
    have hb0 : Below w.heap.size w (w.alloc (.cells #[.int .u8 l.length] 5)) := (Below.refl _ _).alloc (Nat.le_refl _) _
    go_loopw [6, 20] (fun u i wr => ∃ k : Nat, k ≤ l.length ∧ i = .int .i64 k ∧ IsB wr w.heap.size u (packK l k) ∧ (packK l k).length ≤ 1 + 256 * k ∧ (∀ j (hj : j < k) (hl : j < l.length), sayE l[j] m = 0) ∧ Below w.heap.size w wr) (fun _ i _ => l.length - (intOf i).toNat)
    case atStart => exact ⟨0, by omega, rfl, h0, by simp [packK], fun j hj => by omega, hb0⟩
    case round =>
      obtain ⟨k, hk, rfl, ho, hln, hok, hB⟩ := hrel
      clear h0 hb0
      by_cases hlt : k < l.length
      · have hlt' : (k : Int) < l.length := by omega
        obtain ⟨b, off, rfl, hc0⟩ := Hp.out k hlt
        have hc : wr.cell? ⟨b, off + k, none⟩ = some (.string l[k]) := (hB.cell (p := ⟨b, off + k, none⟩) (World.block_lt_of_cell? _ _ hc0)).trans hc0
        have HO := Lib.hid ho
        have HK := Lib.hid hok
        clear ho hok hc0
        by_cases he : sayE l[k] m = 0
        · have HE := Lib.hid he
          have HL : Hid (sayL l[k] m = sayB l[k]) := by simp [Hid, sayL, he]
          have hsz := sayE_size he
          have hlb := sayB_len l[k]
          have hks := packK_succ hlt
          have hkl : (packK l (k + 1)).length = (packK l k).length + (sayB l[k]).length := by rw [hks, List.length_append]
          have HKS : Hid (byteCells (packK l (k + 1)) = byteCells (packK l k) ++ byteCells (sayB l[k])) := by show _ = _; rw [hks]; simp [byteCells]
          have HKL := Lib.hid hkl
          have hb : (packK l k).length + (sayB l[k]).length ≤ 1 + 256 * (k + 1) := by omega
          clear he hlb hks hkl hsz
          go_wp2_with (first
            | (go_at_call 26; refine (say_any _ _ _).mono ?_; rintro e w2 ⟨v2, rfl, hs2, hb2⟩; rw [HE.out]; rw [HL.out] at hs2; rcases hs2.shape with ⟨_, h⟩ | ⟨g2, cap2, rfl, hg2, hg3⟩; (· simp [sayB] at h))
            | (at_builtin; (refine wpList_append_own _ rfl _ _ 46 rfl w.heap.size 5 i0 (.int .u8 0) 1 1 Try.underlying46 hi hz0 hz1 hz2 rfl (by decide) _ (packK l k).length (byteCells (packK l k)) rfl (HO.out.call hb2) ⟨g2, 0, none⟩ (sayB l[k]).length cap2 (byteCells (sayB l[k])) rfl (by simp [Lib.byteCells]) (fun j u hj => World.ownsRow.cells hs2 (g := g2) rfl j u hj) (by simp [Lib.byteCells, Value.oneCell']) (by unfold maxLen; omega) (by omega) (Nat.le_trans hB.size hb2.size) ?_; intro v3 w3 hown hgr _)))
          go_roundw
          case rel => exact ⟨k + 1, by omega, by go_num, (by
            show w3.ownsRow _ _ _ _ (packK l (k + 1)).length (byteCells (packK l (k + 1)))
            rw [HKL.out, HKS.out]; exact hown), by rw [HKL.out]; exact hb, (fun j hj hl' => by
              by_cases e : j = k
              · subst e; exact HE.out
              · exact HK.out j (by omega) hl'),
            ((hB.trans (hb2.mono hB.size)).grown hgr (Nat.le_trans hB.size hb2.size) (fun j hj => (World.ownsRow.lt HO.out j hj).1))⟩
          case measure => simp [intOf]; omega
        · have HE := Lib.hid ((sayE_or l[k] m).resolve_left he)
          have E := packE_bad hlt he
          have L : packL l m = [] := by simp [packL, E]
          rw [E, L]; clear E L
          go_wp2_with (go_at_call 26; refine (say_any _ _ _).mono ?_; rintro e w2 ⟨v2, rfl, hs2, hb2⟩; rw [HE.out])
          go_ret2
          exact RetB.mk (IsB.nil _ _) (hB.trans (hb2.mono hB.size))
      · obtain rfl : k = l.length := by omega
        have E := packE_ok (m := m) (by omega) (fun j hj => hok j hj hj)
        have L : packL l m = packB l := by simp [packL, E]
        have HA := Lib.hid (packK_all l)
        have HE := Lib.hid E
        have HL := Lib.hid L
        clear E L hok
        go_wp2
        go_ret2
        rw [HA.out] at ho
        rw [HE.out, HL.out]
        exact RetB.mk ho hB

set_option maxHeartbeats 1000000 in
theorem rpack_any (v : Value) (l : List ByteArray) (m : Int) (w : World) (hv : IsS w v l) (hl : l.length ≤ 9223372036854775807) :
    Calls Try.prog 29 #[v, .int .i64 m] w (RetB w (packL l m) (packE l m)) := by
  obtain ⟨p, cap, rfl, hp⟩ := id hv
  by_cases h1 : 255 < l.length
  · have E : packE l m = 5 := by simp [packE, h1]
    have L : packL l m = [] := by simp [packL, E]
    rw [E, L]; clear E L hp
    have h1' : (255 : Int) < l.length := by omega
    go_enter Try.func29, Try.ntmps29
    go_wp2
    go_ret2
    exact RetB.mk (IsB.nil _ _) (Below.refl _ _)
  · have h1' : (l.length : Int) ≤ 255 := by omega
    have Hp := Lib.hid hp
    have HV := Lib.hid hv
    obtain ⟨i0, hi, hz0, hz1, hz2⟩ := info_parts info_u8
    clear hp hv
    go_enter Try.func29, Try.ntmps29
    go_wp2
    have h0 : IsB (w.alloc (.cells #[.int .u8 l.length] 5)) w.heap.size (.slice (some ⟨w.heap.size, 0, none⟩) 1 1) (packK l 0) := by
      have h := World.ownsRow_lit (base := w.heap.size) (e := 5) (size := 1) w #[Value.int .u8 (l.length : Int)] 1 (Nat.le_refl _) (by unfold maxLen; omega) rfl
      have e : byteCells (packK l 0) = [Value.int .u8 (l.length : Int)] := by
        have : (UInt8.ofNat l.length).toNat = l.length := by simp [UInt8.toNat_ofNat]; omega
        simp [packK, byteCells, this]
      show World.ownsRow _ _ _ _ _ (packK l 0).length (byteCells (packK l 0))
      rw [e]; exact h
    have hb0 : Below w.heap.size w (w.alloc (.cells #[.int .u8 l.length] 5)) := (Below.refl _ _).alloc (Nat.le_refl _) _
    go_loopw [6, 7] (fun u i wr => ∃ k : Nat, k ≤ l.length ∧ i = .int .i64 k ∧ IsB wr w.heap.size u (packK l k) ∧ (packK l k).length ≤ 1 + 256 * k ∧ (∀ j (hj : j < k) (hl : j < l.length), sayE l[j] m = 0) ∧ Below w.heap.size w wr) (fun _ i _ => l.length - (intOf i).toNat)
    case atStart => exact ⟨0, by omega, rfl, h0, by simp [packK], fun j hj => by omega, hb0⟩
    case round =>
      obtain ⟨k, hk, rfl, ho, hln, hok, hB⟩ := hrel
      clear h0 hb0
      by_cases hlt : k < l.length
      · have hlt' : (k : Int) < l.length := by omega
        obtain ⟨b, off, rfl, hc0⟩ := Hp.out k hlt
        have hc : wr.cell? ⟨b, off + k, none⟩ = some (.string l[k]) := (hB.cell (p := ⟨b, off + k, none⟩) (World.block_lt_of_cell? _ _ hc0)).trans hc0
        have HO := Lib.hid ho
        have HK := Lib.hid hok
        clear ho hok hc0
        by_cases he : sayE l[k] m = 0
        · have HE := Lib.hid he
          have HL : Hid (sayL l[k] m = sayB l[k]) := by simp [Hid, sayL, he]
          have hsz := sayE_size he
          have hlb := sayB_len l[k]
          have hks := packK_succ hlt
          have hkl : (packK l (k + 1)).length = (packK l k).length + (sayB l[k]).length := by rw [hks, List.length_append]
          have HKS : Hid (byteCells (packK l (k + 1)) = byteCells (packK l k) ++ byteCells (sayB l[k])) := by show _ = _; rw [hks]; simp [byteCells]
          have HKL := Lib.hid hkl
          have hb : (packK l k).length + (sayB l[k]).length ≤ 1 + 256 * (k + 1) := by omega
          clear he hlb hks hkl hsz
          go_wp2_with (first
            | (go_at_call 27; refine (rsay_any _ _ _).mono ?_; rintro e w2 ⟨v2, rfl, hs2, hb2⟩; rw [HE.out]; rw [HL.out] at hs2; rcases hs2.shape with ⟨_, h⟩ | ⟨g2, cap2, rfl, hg2, hg3⟩; (· simp [sayB] at h))
            | (at_builtin; (refine wpList_append_own _ rfl _ _ 46 rfl w.heap.size 5 i0 (.int .u8 0) 1 1 Try.underlying46 hi hz0 hz1 hz2 rfl (by decide) _ (packK l k).length (byteCells (packK l k)) rfl (HO.out.call hb2) ⟨g2, 0, none⟩ (sayB l[k]).length cap2 (byteCells (sayB l[k])) rfl (by simp [Lib.byteCells]) (fun j u hj => World.ownsRow.cells hs2 (g := g2) rfl j u hj) (by simp [Lib.byteCells, Value.oneCell']) (by unfold maxLen; omega) (by omega) (Nat.le_trans hB.size hb2.size) ?_; intro v3 w3 hown hgr _)))
          go_roundw
          case rel => exact ⟨k + 1, by omega, by go_num, (by
            show w3.ownsRow _ _ _ _ (packK l (k + 1)).length (byteCells (packK l (k + 1)))
            rw [HKL.out, HKS.out]; exact hown), by rw [HKL.out]; exact hb, (fun j hj hl' => by
              by_cases e : j = k
              · subst e; exact HE.out
              · exact HK.out j (by omega) hl'),
            ((hB.trans (hb2.mono hB.size)).grown hgr (Nat.le_trans hB.size hb2.size) (fun j hj => (World.ownsRow.lt HO.out j hj).1))⟩
          case measure => simp [intOf]; omega
        · have HE := Lib.hid ((sayE_or l[k] m).resolve_left he)
          have E := packE_bad hlt he
          have L : packL l m = [] := by simp [packL, E]
          rw [E, L]; clear E L
          go_wp2_with (go_at_call 27; refine (rsay_any _ _ _).mono ?_; rintro e w2 ⟨v2, rfl, hs2, hb2⟩; rw [HE.out])
          go_ret2
          exact RetB.mk (IsB.nil _ _) (hB.trans (hb2.mono hB.size))
      · obtain rfl : k = l.length := by omega
        have E := packE_ok (m := m) (by omega) (fun j hj => hok j hj hj)
        have L : packL l m = packB l := by simp [packL, E]
        have HA := Lib.hid (packK_all l)
        have HE := Lib.hid E
        have HL := Lib.hid L
        clear E L hok
        go_wp2
        go_ret2
        rw [HA.out] at ho
        rw [HE.out, HL.out]
        exact RetB.mk ho hB
end Go.Proofs.Ytodebflmojincaa
