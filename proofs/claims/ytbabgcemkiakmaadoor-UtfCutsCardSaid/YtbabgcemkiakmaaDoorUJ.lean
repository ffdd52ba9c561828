/- Layer 2: all characters' bytes, the program's and the document's. -/
import Derived.Test.YtbabgcemkiakmaaDoorUI
import Derived.Test.YtbabgcemkiakmaaDoorBld
namespace Go.Proofs.YtbabgcemkiakmaaDoor
open Go.RowKit
open Go.Lib (byteCells)
set_option linter.unusedVariables false
set_option linter.unusedSimpArgs false

def encs (l : List Int) : List UInt8 := l.flatMap fun c => enc c.toNat
def ofE (l : List Int) : Int := if l.all isChB then 0 else 8
def ofL (l : List Int) : List UInt8 := if l.all isChB then encs l else []
theorem of_bad {l : List Int} {c : Int} (hc : c ∈ l) (h : isChB c = false) : ofE l = 8 ∧ ofL l = [] := by
  have : ¬ l.all isChB = true := by rw [List.all_eq_true]; intro hh; rw [hh c hc] at h; cases h
  unfold ofE ofL; rw [if_neg this, if_neg this]; exact ⟨rfl, rfl⟩
theorem of_ok {l : List Int} (h : ∀ c ∈ l, isChB c = true) : ofE l = 0 ∧ ofL l = encs l := by
  have : l.all isChB = true := by rw [List.all_eq_true]; exact h
  unfold ofE ofL; rw [if_pos this, if_pos this]; exact ⟨rfl, rfl⟩
theorem encs_len (l : List Int) : (encs l).length ≤ 4 * l.length := by
  induction l with
  | nil => simp [encs]
  | cons x r ih =>
    have := (enc_len x.toNat).2
    unfold encs at *
    rw [List.flatMap_cons, List.length_append, List.length_cons]; omega
theorem encs_snoc (l : List Int) (k : Nat) (h : k < l.length) : encs (l.take (k + 1)) = encs (l.take k) ++ enc (l[k]).toNat := by
  rw [List.take_succ_eq_append_getElem h]
  unfold encs; rw [List.flatMap_append]; simp
theorem put_ok (c : Int) (h : isChB c = true) : putE c = 0 ∧ putL c = enc c.toNat := by
  unfold putE putL; rw [if_pos h, if_pos h]; exact ⟨rfl, rfl⟩
theorem put_bad (c : Int) (h : isChB c = false) : putE c = 8 ∧ putL c = [] := by
  unfold putE putL; rw [if_neg (by simp [h]), if_neg (by simp [h])]; exact ⟨rfl, rfl⟩
theorem sc_enc (l : List UInt8) : Lib.strCells ⟨l.toArray⟩ = byteCells l := by unfold Lib.strCells byteCells; simp

set_option maxRecDepth 100000 in
set_option maxHeartbeats 4000000 in
theorem of_any (v : Value) (l : List Int) (w : World) (hv : IsI w v l) (hl : l.length ≤ 1099511627776) :
    Calls Tryd.prog 25 #[v] w fun e w' => e = .returned (.tuple #[.string ⟨(ofL l).toArray⟩, .int .i64 (ofE l)]) ∧ Below w.heap.size w w' := by
  obtain ⟨p, cap, rfl, hp⟩ := hv
  have Hp := Lib.hid hp
  clear hp
  have hnew := Lib.fresh_isBuilder 59 5 w
  go_enter Tryd.func25, Tryd.ntmps25
  go_wp2
  go_loopw [11] (fun i wr => ∃ k : Nat, i = .int .i64 k ∧ k ≤ l.length ∧ (∀ j (hj : j < l.length), j < k → isChB (l[j]'hj) = true) ∧ IsBld w.heap.size w.heap.size (byteCells (encs (l.take k))) wr ∧ Below w.heap.size w wr) (fun i _ => l.length - (intOf i).toNat)
  case atStart => exact ⟨0, rfl, by omega, fun j hj h => by omega, hnew, by (repeat (first | (with_reducible exact Below.refl _ _) | ((with_reducible refine below_alloc ?_ ?_ _); · (first | omega | (simp; done) | (simp; omega))) | ((with_reducible refine below_setCell ?_ ?_ _); · (first | omega | (simp; done) | (simp; omega))) | (with_reducible refine Below.drew ?_) | (with_reducible refine below_drewN ?_ _) | ((with_reducible refine below_call (by assumption) ?_ ?_); · (first | omega | (simp; done) | (simp; omega)))))⟩
  case round =>
    clear hnew
    obtain ⟨k, rfl, hk, hok, hbld, hB⟩ := hrel
    have HO := Lib.hid hok
    clear hok
    have hsz := hB.size
    by_cases hlt : k < l.length
    · have hlt' : (k : Int) < l.length := by omega
      obtain ⟨b, off, rfl, d⟩ := Hp.out k hlt
      have c1 : wr.cell? ⟨b, off + k, none⟩ = some (.int .i64 l[k]) := (hB.cell (p := ⟨b, off + k, none⟩) (World.block_lt_of_cell? _ _ d)).trans d
      clear d
      have hsn := encs_snoc l k hlt
      have hel := encs_len (l.take k)
      rw [List.length_take] at hel
      have hmem : l[k] ∈ l := List.getElem_mem _
      have hput := put_any l[k]
      obtain ⟨c, hc⟩ : ∃ c, l[k] = c := ⟨_, rfl⟩
      rw [hc] at c1 hsn hmem hput
      have h4 := (enc_len c.toNat).2
      have HS := Lib.hid (And.intro hsn (And.intro hmem hc))
      clear hsn hmem hc
      by_cases hch : isChB c = true
      · rw [(put_ok c hch).1, (put_ok c hch).2] at hput
        obtain ⟨E, hE⟩ : ∃ E, enc c.toNat = E := ⟨_, rfl⟩
        rw [hE] at hput h4
        have hwr := fun W hb => bld_write w.heap.size w.heap.size (byteCells (encs (l.take k))) ⟨E.toArray⟩ W hb (by rw [Lib.byteCells_length, size_mk]; omega)
        have HE := Lib.hid (And.intro hE hch)
        have HB := Lib.hid hbld
        clear hE hch hbld
        go_wp2_with (first
          | (go_at_call 23; refine (hput _).mono ?_; rintro e w1 ⟨rfl, rfl⟩)
          | (go_at_call 34; refine (hwr _ HB.out (by omega)).mono ?_; rintro e w2 ⟨rfl, hb2, hbel2⟩))
        go_roundw
        case rel =>
          obtain ⟨h1, h2, h3⟩ := HS.out
          refine ⟨k + 1, by go_num, by omega, fun j hj h => ?_, ?_, hB.trans hbel2⟩
          · by_cases e : j = k
            · subst e; rw [h3]; exact HE.out.2
            · exact HO.out j hj (by omega)
          · rw [h1, HE.out.1]
            rw [sc_enc] at hb2
            have : byteCells (encs (l.take k) ++ E) = byteCells (encs (l.take k)) ++ byteCells E := by simp [byteCells]
            rw [this]; exact hb2
        case measure => simp [intOf]; omega
      · have hch' : isChB c = false := by simpa using hch
        rw [(put_bad c hch').1, (put_bad c hch').2] at hput
        have HE := Lib.hid hch'
        clear hch hch' hbld
        go_wp2_with (go_at_call 23; refine (hput _).mono ?_; rintro e w1 ⟨rfl, rfl⟩)
        go_ret2
        obtain ⟨h1, h2, h3⟩ := HS.out
        obtain ⟨g1, g2⟩ := of_bad h2 HE.out
        rw [g1, g2]
        exact ⟨rfl, hB⟩
    · obtain rfl : k = l.length := by omega
      have hall : ∀ c ∈ l, isChB c = true := fun c hc => by
        obtain ⟨j, hj, rfl⟩ := List.mem_iff_getElem.1 hc
        exact HO.out j hj hj
      obtain ⟨g1, g2⟩ := of_ok hall
      rw [List.take_length] at hbld
      have hst := bld_string w.heap.size w.heap.size (encs l) wr hbld hsz
      have HG := Lib.hid (And.intro g1 g2)
      obtain ⟨E, hE⟩ : ∃ E, encs l = E := ⟨_, rfl⟩
      rw [hE] at hst
      have HE := Lib.hid hE
      clear g1 g2 hall hbld hE
      go_wp2_with (go_at_call 35; refine hst.mono ?_; rintro e w1 ⟨rfl, hb1⟩)
      go_ret2
      rw [HG.out.1, HG.out.2, HE.out]
      exact ⟨rfl, hB.trans hb1⟩

theorem mk_app (a b : List UInt8) : (⟨a.toArray⟩ : ByteArray) ++ ⟨b.toArray⟩ = ⟨(a ++ b).toArray⟩ := by
  apply ByteArray.ext; simp [ByteArray.data_append]

set_option maxRecDepth 100000 in
set_option maxHeartbeats 4000000 in
theorem refof_any (v : Value) (l : List Int) (w : World) (hv : IsI w v l) (hl : l.length ≤ 1099511627776) :
    Calls Tryd.prog 26 #[v] w fun e w' => e = .returned (.tuple #[.string ⟨(ofL l).toArray⟩, .int .i64 (ofE l)]) ∧ Below w.heap.size w w' := by
  obtain ⟨p, cap, rfl, hp⟩ := hv
  have Hp := Lib.hid hp
  clear hp
  go_enter Tryd.func26, Tryd.ntmps26
  go_wp2
  go_loopw [4, 5] (fun o i wr => ∃ k : Nat, o = .string ⟨(encs (l.take k)).toArray⟩ ∧ i = .int .i64 k ∧ k ≤ l.length ∧ (∀ j (hj : j < l.length), j < k → isChB (l[j]'hj) = true) ∧ Below w.heap.size w wr) (fun _ i _ => l.length - (intOf i).toNat)
  case atStart => exact ⟨0, rfl, rfl, by omega, fun j hj h => by omega, by (repeat (first | (with_reducible exact Below.refl _ _) | ((with_reducible refine below_alloc ?_ ?_ _); · (first | omega | (simp; done) | (simp; omega))) | ((with_reducible refine below_setCell ?_ ?_ _); · (first | omega | (simp; done) | (simp; omega))) | (with_reducible refine Below.drew ?_) | (with_reducible refine below_drewN ?_ _) | ((with_reducible refine below_call (by assumption) ?_ ?_); · (first | omega | (simp; done) | (simp; omega)))))⟩
  case round =>
    obtain ⟨k, rfl, rfl, hk, hok, hB⟩ := hrel
    have HO := Lib.hid hok
    clear hok
    have hsz := hB.size
    by_cases hlt : k < l.length
    · have hlt' : (k : Int) < l.length := by omega
      obtain ⟨b, off, rfl, d⟩ := Hp.out k hlt
      have c1 : wr.cell? ⟨b, off + k, none⟩ = some (.int .i64 l[k]) := (hB.cell (p := ⟨b, off + k, none⟩) (World.block_lt_of_cell? _ _ d)).trans d
      clear d
      have hsn := encs_snoc l k hlt
      have hel := encs_len (l.take k)
      rw [List.length_take] at hel
      have hmem : l[k] ∈ l := List.getElem_mem _
      have hput := refput_any l[k]
      obtain ⟨c, hc⟩ : ∃ c, l[k] = c := ⟨_, rfl⟩
      rw [hc] at c1 hsn hmem hput
      have h4 := (enc_len c.toNat).2
      have HS := Lib.hid (And.intro hsn (And.intro hmem hc))
      clear hsn hmem hc
      by_cases hch : isChB c = true
      · rw [(put_ok c hch).1, (put_ok c hch).2] at hput
        obtain ⟨E, hE⟩ : ∃ E, enc c.toNat = E := ⟨_, rfl⟩
        rw [hE] at hput h4
        have HE := Lib.hid (And.intro hE hch)
        clear hE hch
        obtain ⟨X, hX⟩ : ∃ X, encs (l.take k) = X := ⟨_, rfl⟩
        rw [hX] at hel ⊢
        have HX := Lib.hid hX
        clear hX
        go_wp2_with (go_at_call 24; refine (hput _).mono ?_; rintro e w1 ⟨rfl, hb1⟩)
        go_roundw
        case rel =>
          obtain ⟨h1, h2, h3⟩ := HS.out
          refine ⟨k + 1, ?_, by go_num, by omega, fun j hj h => ?_, by (repeat (first | (with_reducible exact Below.refl _ _) | ((with_reducible refine below_alloc ?_ ?_ _); · (first | omega | (simp; done) | (simp; omega))) | ((with_reducible refine below_setCell ?_ ?_ _); · (first | omega | (simp; done) | (simp; omega))) | (with_reducible refine Below.drew ?_) | (with_reducible refine below_drewN ?_ _) | ((with_reducible refine below_call (by assumption) ?_ ?_); · (first | omega | (simp; done) | (simp; omega)))))⟩
          · rw [h1, HE.out.1, HX.out, ← mk_app]
          · by_cases e : j = k
            · subst e; rw [h3]; exact HE.out.2
            · exact HO.out j hj (by omega)
        case measure => simp [intOf]; omega
      · have hch' : isChB c = false := by simpa using hch
        rw [(put_bad c hch').1, (put_bad c hch').2] at hput
        have HE := Lib.hid hch'
        clear hch hch'
        go_wp2_with (go_at_call 24; refine (hput _).mono ?_; rintro e w1 ⟨rfl, hb1⟩)
        go_ret2
        obtain ⟨h1, h2, h3⟩ := HS.out
        obtain ⟨g1, g2⟩ := of_bad h2 HE.out
        rw [g1, g2]
        exact ⟨rfl, by (repeat (first | (with_reducible exact Below.refl _ _) | ((with_reducible refine below_alloc ?_ ?_ _); · (first | omega | (simp; done) | (simp; omega))) | ((with_reducible refine below_setCell ?_ ?_ _); · (first | omega | (simp; done) | (simp; omega))) | (with_reducible refine Below.drew ?_) | (with_reducible refine below_drewN ?_ _) | ((with_reducible refine below_call (by assumption) ?_ ?_); · (first | omega | (simp; done) | (simp; omega)))))⟩
    · obtain rfl : k = l.length := by omega
      have hall : ∀ c ∈ l, isChB c = true := fun c hc => by
        obtain ⟨j, hj, rfl⟩ := List.mem_iff_getElem.1 hc
        exact HO.out j hj hj
      obtain ⟨g1, g2⟩ := of_ok hall
      have HG := Lib.hid (And.intro g1 g2)
      clear g1 g2 hall
      go_wp2
      go_ret2
      rw [HG.out.1, HG.out.2, List.take_length]
      exact ⟨rfl, hB⟩
end Go.Proofs.YtbabgcemkiakmaaDoor
