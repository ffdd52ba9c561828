/- Layer 15, the program's (a wheel whose slots are maps): Stop, Set. -/
import Derived.Test.YtcanaadcjipfjaaW15L
import Derived.Test.YtcanaadcjipfjaaKitTail
import Derived.Deep.DeepCutAuto
namespace Go.Proofs.Ytcanaadcjipfjaa
open Go.RowKit
set_option linter.unusedVariables false
set_option linter.unusedSimpArgs false

theorem slot_del (N : Nat) (l : List Du) (id : Int) (j : Nat) : slotL N (delW l id) j = delM (slotL N l j) id := by
  unfold slotL delW delM
  rw [List.filter_filter, List.filter_filter]
  apply List.filter_congr
  intro e _
  exact Bool.and_comm _ _
theorem del_none {l : List Du} {id : Int} (h : ∀ e ∈ l, e.1 ≠ id) : delM l id = l := List.filter_eq_self.2 (fun e he => by simpa using h e he)
theorem is_iff {l : List Du} {id : Int} : isW l id = true ↔ ∃ e ∈ l, e.1 = id := by
  unfold isW
  rw [List.any_eq_true]
  simp
theorem del_no {l : List Du} {id : Int} (h : isW l id = false) : delW l id = l := by
  unfold delW
  rw [List.filter_eq_self]
  intro e he
  have := List.any_eq_false.1 h e he
  simpa using this
theorem when_in {l : List Du} {id : Int} (h : isW l id = true) : (id, whenW l id) ∈ l := by
  obtain ⟨e, he, hid⟩ := is_iff.1 h
  unfold whenW
  cases hf : l.find? fun e => decide (e.1 = id) with
  | none => exact absurd (List.find?_eq_none.1 hf e he) (by simpa using hid)
  | some x =>
    have h1 := List.find?_some hf
    have h2 := List.mem_of_find?_eq_some hf
    simp at h1
    rw [← h1]
    exact h2
theorem same_id {l : List Du} (hu : l.Pairwise (fun a b => a.1 ≠ b.1)) {x y : Du} (hx : x ∈ l) (hy : y ∈ l) (h : x.1 = y.1) : x = y := by
  have h1 := (getM_iff hu (k := x.1) (a := x.2)).2 hx
  have h2 := (getM_iff hu (k := y.1) (a := y.2)).2 hy
  rw [h, h2] at h1
  obtain ⟨a, b⟩ := x
  obtain ⟨c, d⟩ := y
  simp at h1 h
  rw [h, h1]
def setC (g s N : Nat) (ms : Nat → Nat) : Nat → Prop := fun b => b = g ∨ b = s ∨ ∃ k, k < N ∧ b = ms k
theorem but_grown {C : Nat → Prop} {w w' : World} {b : Nat} (hg : w.grownBy w' (some b)) (hC : C b) : ButC C w w' :=
  ⟨⟨hg.os, hg.tape, hg.output, hg.size, fun k hk => absurd hk (by omega)⟩, fun q hq hn => hg.block q hq (fun e => hn (by cases e; exact hC))⟩
theorem but_map {g s N : Nat} {ms : Nat → Nat} {w w' : World} {k : Nat} (hk : k < N) (hg : w.grownBy w' (some (ms k))) : ButC (setC g s N ms) w w' := but_grown hg (.inr (.inr ⟨k, hk, rfl⟩))
/-- one map is turned: the wheel is so then -/
theorem LieAt.turn {w w' : World} {g s cap N : Nat} {ms : Nat → Nat} {now : Int} {l l' : List Du} (H : LieAt w g s cap ms N now l) {k : Nat} (hk : k < N) (hg : w.grownBy w' (some (ms k))) (hm : IsM 3 3 w' (ms k) (slotL N l' k)) (ho : ∀ j, j < N → j ≠ k → slotL N l' j = slotL N l j) (hgood : GoodV l') : LieAt w' g s cap ms N now l' := by
  have hb : ∀ b, b < w.heap.size → b ≠ ms k → w'.heap[b]? = w.heap[b]? := fun b h1 h2 => hg.block b h1 (by simp [h2])
  have l1 := World.block_lt_of_cell? _ _ H.tick
  have l2 := World.block_lt_of_cell? _ _ (H.at_ k hk)
  refine ⟨⟨hgood, H.good.2⟩, (World.cell?_of_block (w := w) (a := ⟨g, 0, none⟩) (hb g l1 (H.gm k hk).1)).trans H.tick, (World.cell?_of_block (w := w) (a := ⟨g, 1, none⟩) (hb g l1 (H.gm k hk).1)).trans H.slots, (World.frozen?_of_block (w := w) (a := ⟨g, 0, none⟩) (hb g l1 (H.gm k hk).1)).trans H.free,
    fun j hj => (World.cell?_of_block (w := w) (a := ⟨s, j, none⟩) (hb s l2 (H.gm k hk).2)).trans (H.at_ j hj), fun j hj => ?_, H.gs, H.gm, H.mm⟩
  by_cases e : j = k
  · subst e; exact hm
  · rw [ho j hj e]
    exact (H.map j hj).keep (hb _ (H.map j hj).lt (H.mm j k hj hk e))
theorem good_vdel {l : List Du} (h : GoodV l) (id : Int) : GoodV (delW l id) := ⟨h.o.sublist List.filter_sublist, h.u.sublist List.filter_sublist, fun e he => h.r e (List.mem_filter.1 he).1⟩
/-- a number that is due is taken out of its slot: the wheel is so then -/
theorem LieAt.struck {w w' : World} {g s cap N : Nat} {ms : Nat → Nat} {now : Int} {l : List Du} (H : LieAt w g s cap ms N now l) {id a : Int} {k : Nat} (hin : (id, a) ∈ l) (hk : a % (N : Int) = (k : Int)) (hkN : k < N) (h6 : IsM 3 3 w' (ms k) (delM (slotL N l k) id)) (hg6 : w.grownBy w' (some (ms k))) : LieAt w' g s cap ms N now (delW l id) := by
  refine H.turn hkN hg6 (by rw [slot_del]; exact h6) (fun j hj hjk => ?_) (good_vdel H.good.1 id)
  rw [slot_del]
  refine del_none (fun e he hid => ?_)
  obtain ⟨he1, he2⟩ := List.mem_filter.1 he
  have := same_id H.good.1.u he1 hin hid
  subst this
  have h2 : a % (N : Int) = (j : Int) := by simpa using he2
  omega
set_option maxRecDepth 100000 in
set_option maxHeartbeats 4000000 in
theorem wstop_at (g s cap N : Nat) (ms : Nat → Nat) (now : Int) (l : List Du) (w : World) (H : LieAt w g s cap ms N now l) (id : Int) (h1 : I64 id) :
    Calls Try.prog 10 #[ptrW g, .int .i64 id] w fun e w' => e = .returned (.bool (isW l id)) ∧ LieAt w' g s cap ms N now (delW l id) ∧ ButC (setC g s N ms) w w' := by
  obtain ⟨hgood, hN1, hN2⟩ := H.good
  have cW := Lib.hid (wwhen_at g s cap N ms now l w H id h1)
  have HH := Lib.hid H
  cases hi : isW l id with
  | false =>
    rw [hi] at cW
    have HD := Lib.hid (del_no hi)
    clear hi
    go_enter Try.func10, Try.ntmps10
    go_wp2_with fail
    refine cW.out.mono ?_; rintro e w1 ⟨rfl, hb1⟩
    go_wp2
    go_ret
    exact ⟨rfl, by rw [HD.out]; exact HH.out.call hb1, ButC.below _ hb1⟩
  | true =>
    rw [hi] at cW
    have hin := when_in hi
    have hr := hgood.r _ hin
    have hG := Lib.hid hgood
    have HIN := Lib.hid hin
    generalize whenW l id = a at cW hr HIN
    simp only at hr
    obtain ⟨k, hk, hkN⟩ := slot_of hN1 (a := a)
    have cS := Lib.hid (fun W hW => wslot_at g s cap N ms now l W hW a ⟨by omega, by omega⟩ k hk)
    have HK := Lib.hid hk
    clear hin hi hgood hk
    go_enter Try.func10, Try.ntmps10
    go_wp2_with fail
    refine cW.out.mono ?_; rintro e w1 ⟨rfl, hb1⟩
    have H1 := Lib.hid (HH.out.call hb1)
    go_wp2_with fail
    refine (cS.out _ H1.out).mono ?_; rintro e w2 ⟨rfl, hb2⟩
    have H2 := Lib.hid (H1.out.call hb2)
    have HM := Lib.hid (H2.out.map k hkN)
    have HB := Lib.hid (hb1.trans (hb2.mono hb1.size))
    clear hb1 hb2
    go_wp2_with (at_delete; refine wp_delM _ rfl _ _ rfl lays_map rfl HM.out id h1 rfl ?_; intro w6 h6 hg6)
    go_ret
    exact ⟨rfl, H2.out.struck HIN.out HK.out hkN h6 hg6, (ButC.below _ HB.out).trans (fun b h => .inl h) (but_map hkN hg6)⟩
theorem good_len {l : List Du} (h : GoodV l) : l.length ≤ 256 := by
  have h1 : (l.map fun e => e.1.toNat).Nodup := by
    unfold List.Nodup
    rw [List.pairwise_map]
    refine h.u.imp_of_mem (fun {a b} ha hb hne hq => hne ?_)
    have := (h.r a ha).1
    have := (h.r b hb).1
    omega
  have h2 : (l.map fun e => e.1.toNat) ⊆ List.range 256 := by
    intro x hx
    obtain ⟨e, he, rfl⟩ := List.mem_map.1 hx
    have := (h.r e he).1
    exact List.mem_range.2 (by omega)
  have := List.Nodup.length_le_of_subset h1 h2
  rwa [List.length_map, List.length_range] at this
theorem slot_ins (N : Nat) (L : List Du) (x : Du) (k : Nat) (h : x.2 % (N : Int) = (k : Int)) : (slotL N (insW L x) k).Perm (x :: slotL N L k) := by
  unfold slotL insW
  rw [List.filter_append, List.filter_cons_of_pos (by simpa using h)]
  refine List.perm_middle.trans (List.Perm.cons x ?_)
  rw [← List.filter_append, List.takeWhile_append_dropWhile]
theorem slot_ins_no (N : Nat) (L : List Du) (x : Du) (j : Nat) (h : x.2 % (N : Int) ≠ (j : Int)) : slotL N (insW L x) j = slotL N L j := by
  unfold slotL insW
  rw [List.filter_append, List.filter_cons_of_neg (by simpa using h), ← List.filter_append, List.takeWhile_append_dropWhile]
set_option maxRecDepth 100000 in
set_option maxHeartbeats 4000000 in
theorem wset_at (g s cap N : Nat) (ms : Nat → Nat) (now : Int) (l : List Du) (w : World) (H : LieAt w g s cap ms N now l) (hW : GoodW l now) (id a : Int) (h1 : I64 id) (h2 : I64 a) :
    Calls Try.prog 17 #[ptrW g, .int .i64 id, .int .i64 a] w fun e w' => e = .returned (.int .i64 (setE now id a)) ∧ LieAt w' g s cap ms N now (setW l now id a) ∧ ButC (setC g s N ms) w w' := by
  obtain ⟨hgood, hN1, hN2⟩ := H.good
  have HH := Lib.hid H
  have t1 := H.tick
  by_cases hE : setE now id a = 0
  case neg =>
    have hS : setW l now id a = l := if_neg hE
    have hE8 : setE now id a = 8 := by unfold setE at hE ⊢; split at hE <;> simp_all
    have hcond : id < 0 ∨ 255 < id ∨ a ≤ now ∨ 1099511627776 < a := by
      unfold setE at hE
      by_cases q : id < 0 ∨ 255 < id ∨ a ≤ now ∨ 1099511627776 < a
      · exact q
      · exact absurd (if_neg q) hE
    have HF := Lib.hid (show setE now id a = 8 ∧ LieAt w g s cap ms N now (setW l now id a) ∧ ButC (setC g s N ms) w w from ⟨hE8, by rw [hS]; exact H, ButC.refl _ _⟩)
    clear hE hS hE8
    by_cases q1 : id < 0
    · go_enter Try.func17, Try.ntmps17
      go_wp2
      go_ret
      exact ⟨by rw [HF.out.1]; rfl, HF.out.2⟩
    · by_cases q2 : 255 < id
      · go_enter Try.func17, Try.ntmps17
        go_wp2
        go_ret
        exact ⟨by rw [HF.out.1]; rfl, HF.out.2⟩
      · by_cases q3 : a ≤ now
        · go_enter Try.func17, Try.ntmps17
          go_wp2
          go_ret
          exact ⟨by rw [HF.out.1]; rfl, HF.out.2⟩
        · have q4 : 1099511627776 < a := by omega
          go_enter Try.func17, Try.ntmps17
          go_wp2
          go_ret
          exact ⟨by rw [HF.out.1]; rfl, HF.out.2⟩
  case pos =>
    have hcond : ¬ (id < 0 ∨ 255 < id ∨ a ≤ now ∨ 1099511627776 < a) := by
      intro q
      unfold setE at hE
      rw [if_pos q] at hE
      cases hE
    have q1 : ¬ id < 0 := by omega
    have q2 : ¬ 255 < id := by omega
    have q3 : ¬ a ≤ now := by omega
    have q4 : ¬ 1099511627776 < a := by omega
    have hS : setW l now id a = insW (delW l id) (id, a) := if_pos hE
    have HG := Lib.hid (show GoodV (insW (delW l id) (id, a)) from by have := good_set hW id a; rw [hS] at this; exact good_v this)
    have HD := Lib.hid (good_vdel hgood id)
    have cS := Lib.hid (wstop_at g s cap N ms now l w H id h1)
    rw [hS, hE]
    obtain ⟨k, hk, hkN⟩ := slot_of hN1 (a := a)
    have cT := Lib.hid (fun W hL => wslot_at g s cap N ms now (delW l id) W hL a ⟨by have := hW.t; omega, h2.2⟩ k hk)
    have HK := Lib.hid hk
    have hln : (slotL N (delW l id) k).length ≤ 1000000 := Nat.le_trans (List.length_filter_le _ _) (by have := good_len HD.out; omega)
    have HX := Lib.hid (And.intro hln hN1)
    clear hE hS hcond hk hln
    go_enter Try.func17, Try.ntmps17
    go_wp2_with fail
    refine cS.out.mono ?_; rintro e w1 ⟨rfl, hL, hb0⟩
    have H1 := Lib.hid hL
    have HW := Lib.hid hb0
    clear hL hb0 t1
    go_wp2_with fail
    refine (cT.out _ H1.out).mono ?_; rintro e w2 ⟨rfl, hb2⟩
    have H2 := Lib.hid (H1.out.call hb2)
    have HM := Lib.hid (H2.out.map k hkN)
    have HW2 := Lib.hid (HW.out.call hb2)
    clear hb2
    go_wp2_with (at_mapUpdate; refine wp_putM _ rfl _ _ _ rfl lays_map rfl HM.out HX.out.1 id a h1 h2 rfl rfl ?_; intro w6 h6 hg6)
    go_ret
    have hdd : delM (slotL N (delW l id) k) id = slotL N (delW l id) k := del_none (fun e he => by
      have := (List.mem_filter.1 (List.mem_filter.1 he).1).2
      simpa using this)
    rw [hdd] at h6
    refine ⟨rfl, H2.out.turn hkN hg6 (h6.perm (slot_ins N (delW l id) (id, a) k HK.out).symm) (fun j hj hjk => slot_ins_no N (delW l id) (id, a) j (fun q => by have := HK.out; simp only at q; omega)) HG.out, HW2.out.trans (fun b h => .inl h) (but_map hkN hg6)⟩
end Go.Proofs.Ytcanaadcjipfjaa
