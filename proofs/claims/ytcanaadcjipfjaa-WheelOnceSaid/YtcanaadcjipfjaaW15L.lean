/- Layer 15, the program's (a wheel whose slots are maps): how a wheel lies in memory; When. -/
import Derived.Test.YtcanaadcjipfjaaW15K
import Derived.Test.YtcanaadcjipfjaaKitMap
namespace Go.Proofs.Ytcanaadcjipfjaa
open Go.RowKit
set_option linter.unusedVariables false
set_option linter.unusedSimpArgs false

theorem lays_map : LaysM 69 3 3 := ⟨Try.underlying69, Try.underlying3, Try.underlying3, fun W => by kernel_rfl⟩
/-- what a slot holds -/
def slotL (N : Nat) (l : List Du) (k : Nat) : List Du := l.filter fun e => decide (e.2 % (N : Int) = (k : Int))
/-- numbers that are due, in order, each once, of those that may be -/
structure GoodV (l : List Du) : Prop where
  o : l.Pairwise (fun a b => aheadB a b = true)
  u : l.Pairwise (fun a b => a.1 ≠ b.1)
  r : ∀ e ∈ l, (0 ≤ e.1 ∧ e.1 ≤ 255) ∧ 0 < e.2 ∧ e.2 ≤ 1099511627776
theorem good_v {l : List Du} {now : Int} (h : GoodW l now) : GoodV l := ⟨h.o, h.u, fun e he => by have := h.r e he; have := h.t; omega⟩
structure LieAt (w : World) (g s cap : Nat) (ms : Nat → Nat) (N : Nat) (now : Int) (l : List Du) : Prop where
  good : GoodV l ∧ 1 ≤ N ∧ N ≤ 32
  tick : w.cell? ⟨g, 0, none⟩ = some (.int .i64 now)
  slots : w.cell? ⟨g, 1, none⟩ = some (.slice (some ⟨s, 0, none⟩) N cap)
  free : w.frozen? ⟨g, 0, none⟩ = false
  at_ : ∀ k, k < N → w.cell? ⟨s, k, none⟩ = some (.map (some (ms k)))
  map : ∀ k, k < N → IsM 3 3 w (ms k) (slotL N l k)
  gs : g ≠ s
  gm : ∀ k, k < N → g ≠ ms k ∧ s ≠ ms k
  mm : ∀ j k, j < N → k < N → j ≠ k → ms j ≠ ms k
/-- a wheel of N slots lies at g, in the blocks of C: its tick is now, and l is due -/
def LieW (w : World) (C : Nat → Prop) (g N : Nat) (now : Int) (l : List Du) : Prop :=
  ∃ s cap ms, LieAt w g s cap ms N now l ∧ GoodW l now ∧ ∀ b, C b ↔ (b = g ∨ b = s ∨ ∃ k, k < N ∧ b = ms k)
theorem LieW.lt {w : World} {C : Nat → Prop} {g N : Nat} {now : Int} {l : List Du} (h : LieW w C g N now l) : ∀ b, C b → b < w.heap.size := by
  obtain ⟨s, cap, ms, H, hW, hC⟩ := h
  intro b hb
  rcases (hC b).1 hb with rfl | rfl | ⟨k, hk, rfl⟩
  · exact World.block_lt_of_cell? _ _ H.tick
  · exact World.block_lt_of_cell? _ _ (H.at_ 0 (by have := H.good.2.1; omega))
  · exact (H.map k hk).lt
theorem LieAt.keep {w w' : World} {g s cap N : Nat} {ms : Nat → Nat} {now : Int} {l : List Du} (H : LieAt w g s cap ms N now l) (hk : ∀ b, (b = g ∨ b = s ∨ ∃ k, k < N ∧ b = ms k) → w'.heap[b]? = w.heap[b]?) : LieAt w' g s cap ms N now l :=
  ⟨H.good, (World.cell?_of_block (w := w) (a := ⟨g, 0, none⟩) (hk g (.inl rfl))).trans H.tick, (World.cell?_of_block (w := w) (a := ⟨g, 1, none⟩) (hk g (.inl rfl))).trans H.slots, (World.frozen?_of_block (w := w) (a := ⟨g, 0, none⟩) (hk g (.inl rfl))).trans H.free,
    fun k h => (World.cell?_of_block (w := w) (a := ⟨s, k, none⟩) (hk s (.inr (.inl rfl)))).trans (H.at_ k h), fun k h => (H.map k h).keep (hk _ (.inr (.inr ⟨k, h, rfl⟩))), H.gs, H.gm, H.mm⟩
theorem LieW.keep {w w' : World} {C : Nat → Prop} {g N : Nat} {now : Int} {l : List Du} (h : LieW w C g N now l) (hk : ∀ b, C b → w'.heap[b]? = w.heap[b]?) : LieW w' C g N now l := by
  obtain ⟨s, cap, ms, H, hW, hC⟩ := h
  exact ⟨s, cap, ms, H.keep (fun b hb => hk b ((hC b).2 hb)), hW, hC⟩
theorem LieW.good {w : World} {C : Nat → Prop} {g N : Nat} {now : Int} {l : List Du} (h : LieW w C g N now l) : GoodW l now ∧ 1 ≤ N ∧ N ≤ 32 := by
  obtain ⟨s, cap, ms, H, hW, hC⟩ := h
  exact ⟨hW, H.good.2⟩
/-- the wheel is then so, and all else as it was -/
def Did15 (w w' : World) (C : Nat → Prop) (g N : Nat) (now : Int) (l : List Du) : Prop := ∃ C', LieW w' C' g N now l ∧ (∀ b, C' b → C b ∨ w.heap.size ≤ b) ∧ ButC C w w'
theorem slot_get {N : Nat} {l : List Du} (hg : GoodV l) (k : Nat) (id : Int) : getM (slotL N l k) id = (l.find? fun e => decide (e.1 = id ∧ e.2 % (N : Int) = (k : Int))).map (·.2) := by
  unfold getM slotL
  rw [List.find?_filter]
  congr 2
  funext e
  by_cases h1 : e.1 = id <;> by_cases h2 : e.2 % (N : Int) = (k : Int) <;> simp [h1, h2]
theorem LieAt.call {w w' : World} {g s cap N : Nat} {ms : Nat → Nat} {now : Int} {l : List Du} (H : LieAt w g s cap ms N now l) (hb : Below w.heap.size w w') : LieAt w' g s cap ms N now l :=
  H.keep (fun b h => hb.block b (by
    rcases h with rfl | rfl | ⟨k, hk, rfl⟩
    · exact World.block_lt_of_cell? _ _ H.tick
    · exact World.block_lt_of_cell? _ _ (H.at_ 0 (by have := H.good.2.1; omega))
    · exact (H.map k hk).lt))
theorem slot_once {l : List Du} (hg : GoodV l) (N k : Nat) : Once (slotL N l k) := hg.u.sublist List.filter_sublist
/-- when a number is due, by slots -/
theorem when_hit {N : Nat} {l : List Du} {a : Int} {k : Nat} {id : Int} (hg : GoodV l) (h : getM (slotL N l k) id = some a) : whenW l id = a ∧ isW l id = true := by
  have hm : (id, a) ∈ slotL N l k := (getM_iff (hg.u.sublist List.filter_sublist)).1 h
  have hl : (id, a) ∈ l := (List.mem_filter.1 hm).1
  have hget : getM l id = some a := (getM_iff hg.u).2 hl
  unfold getM at hget
  unfold whenW isW
  cases hf : l.find? fun e => decide (e.1 = id) with
  | none => rw [hf] at hget; cases hget
  | some e =>
    rw [hf] at hget
    refine ⟨by simpa using hget, List.any_eq_true.2 ⟨(id, a), hl, by simp⟩⟩
theorem when_miss {N : Nat} {l : List Du} {id : Int} (hN : 1 ≤ N) (hg : GoodV l) (h : ∀ k, k < N → getM (slotL N l k) id = none) : whenW l id = 0 ∧ isW l id = false := by
  have hno : ∀ e ∈ l, e.1 ≠ id := by
    intro e he hid
    have h0 : 0 ≤ e.2 % (N : Int) := Int.emod_nonneg _ (by omega)
    have h1 : e.2 % (N : Int) < N := Int.emod_lt_of_pos _ (by omega)
    have hm : e ∈ slotL N l (e.2 % (N : Int)).toNat := List.mem_filter.2 ⟨he, by simp; omega⟩
    have := (getM_iff (slot_once hg N _) (k := e.1) (a := e.2)).2 hm
    rw [hid] at this
    have h2 := h (e.2 % (N : Int)).toNat (by omega)
    rw [h2] at this
    cases this
  unfold whenW isW
  refine ⟨?_, List.any_eq_false.2 (fun e he => by simpa using hno e he)⟩
  rw [List.find?_eq_none.2 (fun e he => by simpa using hno e he)]
set_option maxRecDepth 100000 in
set_option maxHeartbeats 2000000 in
theorem wwhen_at (g s cap N : Nat) (ms : Nat → Nat) (now : Int) (l : List Du) (w : World) (H : LieAt w g s cap ms N now l) (id : Int) (h1 : I64 id) :
    Calls Try.prog 21 #[ptrW g, .int .i64 id] w fun e w' => e = .returned (.tuple #[.int .i64 (whenW l id), .bool (isW l id)]) ∧ Below w.heap.size w w' := by
  obtain ⟨hgood, hN1, hN2⟩ := H.good
  have HH := Lib.hid H
  have hs := H.slots
  have hN' : (0 : Int) ≤ N := by omega
  go_enter Try.func21, Try.ntmps21
  go_wp2
  go_loopw [17] (fun i wr => ∃ k : Nat, i = .int .i64 k ∧ k ≤ N ∧ Hid (∀ j, j < k → getM (slotL N l j) id = none) ∧ Below w.heap.size w wr) (fun i _ => N - (intOf i).toNat)
  case atStart => exact ⟨0, rfl, Nat.zero_le _, Lib.hid (fun j hj => by omega), Below.refl _ _⟩
  case round =>
    obtain ⟨k, rfl, hk, HK, hB⟩ := hrel
    by_cases hlt : k < N
    · have hlt' : (k : Int) < N := by omega
      have c0 := (HH.out.call hB).at_ k hlt
      have hM := Lib.hid ((HH.out.call hB).map k hlt)
      have HG := Lib.hid (fun a h => when_hit (N := N) (k := k) (id := id) (a := a) hgood h)
      have HK2 : Hid (getM (slotL N l k) id = none → ∀ j, j < k + 1 → getM (slotL N l j) id = none) := Lib.hid (fun h j hj => by
        by_cases e : j = k
        · subst e; exact h
        · exact HK.out j (by omega))
      clear hs
      cases hr : getM (slotL N l k) id with
      | none =>
        have HR := Lib.hid hr
        go_wp2_with (at_lookup; refine wp_lookM _ rfl _ _ rfl lays_map rfl hM.out id h1 rfl ?_; rw [hr])
        go_roundw
        case rel => exact ⟨k + 1, by go_num, by omega, Lib.hid (HK2.out HR.out), hB⟩
        case measure => simp [intOf]; omega
      | some a =>
        obtain ⟨q1, q2⟩ := HG.out a hr
        have HQ := Lib.hid (And.intro q1 q2)
        clear q1 q2
        go_wp2_with (at_lookup; refine wp_lookM _ rfl _ _ rfl lays_map rfl hM.out id h1 rfl ?_; rw [hr])
        go_ret2
        exact ⟨by rw [HQ.out.1, HQ.out.2]; rfl, hB⟩
    · obtain rfl : k = N := by omega
      obtain ⟨q1, q2⟩ := when_miss hN1 hgood HK.out
      have HQ := Lib.hid (And.intro q1 q2)
      clear q1 q2
      go_wp2
      go_ret2
      exact ⟨by rw [HQ.out.1, HQ.out.2]; rfl, hB⟩
theorem wwhen_nil (id : Int) (w : World) : Calls Try.prog 21 #[.pointer none, .int .i64 id] w fun e w' => e = .returned (.tuple #[.int .i64 0, .bool false]) ∧ Below w.heap.size w w' := by
  go_enter Try.func21, Try.ntmps21
  go_wp2
  go_ret2
  exact ⟨rfl, Below.refl _ _⟩
set_option maxRecDepth 100000 in
/-- the slot that holds what is due at a tick -/
theorem wslot_at (g s cap N : Nat) (ms : Nat → Nat) (now : Int) (l : List Du) (w : World) (H : LieAt w g s cap ms N now l) (a : Int) (ha : 0 ≤ a ∧ a ≤ 9223372036854775807) (k : Nat) (hk : a % (N : Int) = (k : Int)) :
    Calls Try.prog 29 #[ptrW g, .int .i64 a] w fun e w' => e = .returned (.map (some (ms k))) ∧ Below w.heap.size w w' := by
  obtain ⟨hgood, hN1, hN2⟩ := H.good
  have hkN : k < N := by have := Int.emod_lt_of_pos a (show (0 : Int) < N by omega); omega
  have hkN' : (k : Int) < N := by omega
  have hmod : a.tmod (N : Int) = (k : Int) := by rw [Int.tmod_eq_emod_of_nonneg (by omega)]; exact hk
  have hN0 : ¬ ((N : Int) = 0) := by omega
  have hwk : IntKind.i64.wrap (k : Int) = (k : Int) := IntWalk.i64_in _ (by omega)
  have s1 := H.slots
  have s2 := H.at_ k hkN
  clear hk hgood
  go_enter Try.func29, Try.ntmps29
  go_wp2
  go_region
  go_wp2
  go_ret
  exact ⟨rfl, Below.drew (Below.refl _ _)⟩
theorem slot_of {N : Nat} (hN : 1 ≤ N) {a : Int} : ∃ k : Nat, a % (N : Int) = (k : Int) ∧ k < N := by
  have h1 := Int.emod_nonneg a (show (N : Int) ≠ 0 by omega)
  have h2 := Int.emod_lt_of_pos a (show (0 : Int) < N by omega)
  exact ⟨(a % (N : Int)).toNat, by omega, by omega⟩
end Go.Proofs.Ytcanaadcjipfjaa
