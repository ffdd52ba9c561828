/- Layer 9, the program's: the library's cut at one byte, a doubled byte, and the copy of a text. -/
import Derived.Test.YtackinamkibmlaaDoorA9M
import Derived.Test.YtackinamkibmlaaDoorA9F
import Derived.Test.YtackinamkibmlaaDoorShelf
namespace Go.Proofs.YtackinamkibmlaaDoor
open Go.RowKit
set_option linter.unusedVariables false
set_option linter.unusedSimpArgs false

/-- the cell of the library's own bound holds some number -/
def Maxs (w : World) : Prop := ∃ m, w.cell? ⟨0, 0, none⟩ = some (.int .i64 m)
theorem Maxs.call {w w' : World} (h : Maxs w) (hb : Below w.heap.size w w') : Maxs w' := by
  obtain ⟨m, hm⟩ := h
  exact ⟨m, (hb.cell (p := ⟨0, 0, none⟩) (World.block_lt_of_cell? _ _ hm)).trans hm⟩
/-- what the program's calls ask of a world: the two tables, and that cell -/
structure Tabs9 (w : World) : Prop where
  t : Tabs w
  m : Maxs w
theorem Tabs9.call {w w' : World} (h : Tabs9 w) (hb : Below w.heap.size w w') : Tabs9 w' := ⟨h.t.call hb, h.m.call hb⟩

theorem index_one (c : UInt8) : ∀ l : List UInt8, Lib.index l [c] = if findL c.toNat l < l.length then (findL c.toNat l : Int) else -1
  | [] => by simp [Lib.index, findL]
  | b :: l => by
    have ih := index_one c l
    unfold Lib.index
    by_cases h : b = c
    · subst h
      simp [findL, List.isPrefixOf, List.findIdx_cons]
    · have hp : [c].isPrefixOf (b :: l) = false := by
        simp only [List.isPrefixOf, Bool.and_true, beq_eq_false_iff_ne, ne_eq]
        exact fun e => h e.symm
      have hn : (b.toNat == c.toNat) = false := by
        simp only [beq_eq_false_iff_ne, ne_eq]
        exact fun e => h (UInt8.toNat_inj.1 e)
      have hf : findL c.toNat (b :: l) = findL c.toNat l + 1 := by unfold findL; rw [List.findIdx_cons, hn]; rfl
      rw [hp, if_neg (by decide), ih, hf, List.length_cons]
      by_cases hlt : findL c.toNat l < l.length
      · simp only [if_pos hlt, if_pos (show findL c.toNat l + 1 < l.length + 1 by omega)]
        rw [if_neg (by simp)]
        omega
      · simp only [if_neg hlt, if_neg (show ¬ findL c.toNat l + 1 < l.length + 1 by omega)]
        rfl
/-- what is behind the cut -/
def restC (c : Nat) (s : ByteArray) : ByteArray := if findL c s.data.toList < s.size then s.extract (findL c s.data.toList + 1) s.size else ⟨#[]⟩
theorem ext_take (s : ByteArray) (k : Nat) : (⟨(s.data.toList.take k).toArray⟩ : ByteArray) = s.extract 0 k := by
  apply ByteArray.ext
  rw [ByteArray.data_extract]
  apply Array.toList_inj.1
  simp
theorem ext_drop (s : ByteArray) (k : Nat) : (⟨(s.data.toList.drop k).toArray⟩ : ByteArray) = s.extract k s.size := by
  apply ByteArray.ext
  rw [ByteArray.data_extract]
  apply Array.toList_inj.1
  simp
  rw [List.take_of_length_le]
  simp
theorem scut_any (s : ByteArray) (c : UInt8) (w : World) (hm : Maxs w) (hs : s.size ≤ 1000000) :
    Calls Tryd.prog 74 #[.string s, .string ⟨#[c]⟩] w fun e w' => e = .returned (.tuple #[.string (s.extract 0 (findL c.toNat s.data.toList)), .string (restC c.toNat s), .bool (decide (findL c.toNat s.data.toList < s.size))]) ∧ Below w.heap.size w w' := by
  obtain ⟨m, hm⟩ := hm
  have hl := sz_list s
  have hle := findL_le c.toNat s.data.toList
  refine (Tryd.strings_Cut s ⟨#[c]⟩ m w (by omega) hm).mono ?_
  rintro e w1 ⟨rfl, n, rfl⟩
  refine ⟨?_, below_drewN (Below.refl _ _) n⟩
  have hi : Lib.index s.data.toList (⟨#[c]⟩ : ByteArray).data.toList = if findL c.toNat s.data.toList < s.data.toList.length then (findL c.toNat s.data.toList : Int) else -1 := index_one c _
  unfold Lib.cut restC
  rw [hi, hl]
  by_cases hlt : findL c.toNat s.data.toList < s.data.toList.length
  · rw [if_pos hlt, if_pos (by omega), if_pos hlt, decide_eq_true hlt]
    simp only [Int.toNat_natCast]
    rw [ext_take, show (⟨#[c]⟩ : ByteArray).data.toList.length = 1 from rfl, ext_drop, ← hl]
  · have he : findL c.toNat s.data.toList = s.size := by omega
    rw [if_neg hlt, if_neg (by omega), if_neg hlt, decide_eq_false hlt, he]
    simp only
    rw [show s.extract 0 s.size = s by simp]

/-- two points side by side -/
def dotsB (l : List UInt8) : Bool := (List.range l.length).any fun k => decide (k + 1 < l.length) && (decide ((l.getD k 0).toNat = 46) && decide ((l.getD (k + 1) 0).toNat = 46))
theorem occ_dots {l : List UInt8} {k : Nat} : Lib.occAt l [46, 46] k = true ↔ ∃ h : k + 1 < l.length, l[k].toNat = 46 ∧ l[k + 1].toNat = 46 := by
  constructor
  · intro h
    have hr := Lib.occAt_room h
    have hlt : k + 1 < l.length := by
      rcases hr with hr | hr
      · simp only [List.length_cons, List.length_nil] at hr; omega
      · cases hr
    rw [Lib.occAt_iff_take _ _ _ (by simp; omega)] at h
    have h : (l.drop k).take 2 = [46, 46] := eq_of_beq h
    have e1 : l.drop k = l[k] :: l[k + 1] :: l.drop (k + 2) := by rw [List.drop_eq_getElem_cons (by omega), List.drop_eq_getElem_cons (by omega)]
    rw [e1] at h
    have g1 : l[k] = 46 := (List.cons.inj h).1
    have g2 : l[k + 1] = 46 := (List.cons.inj (List.cons.inj h).2).1
    exact ⟨hlt, by rw [g1]; rfl, by rw [g2]; rfl⟩
  · rintro ⟨hlt, h1, h2⟩
    rw [Lib.occAt_iff_take _ _ _ (by simp; omega)]
    have e1 : l.drop k = l[k] :: l[k + 1] :: l.drop (k + 2) := by rw [List.drop_eq_getElem_cons (by omega), List.drop_eq_getElem_cons (by omega)]
    rw [e1]
    have g1 : l[k] = 46 := UInt8.toNat_inj.1 h1
    have g2 : l[k + 1] = 46 := UInt8.toNat_inj.1 h2
    rw [g1, g2]
    rfl
theorem dots_iff {l : List UInt8} : dotsB l = true ↔ ∃ k, Lib.occAt l [46, 46] k = true := by
  unfold dotsB
  rw [List.any_eq_true]
  constructor
  · rintro ⟨k, hk, h⟩
    simp only [Bool.and_eq_true, decide_eq_true_eq] at h
    obtain ⟨h1, h2, h3⟩ := h
    refine ⟨k, occ_dots.2 ⟨h1, ?_, ?_⟩⟩
    · rw [List.getD, List.getElem?_eq_getElem (by omega)] at h2; exact h2
    · rw [List.getD, List.getElem?_eq_getElem (by omega)] at h3; exact h3
  · rintro ⟨k, h⟩
    obtain ⟨h1, h2, h3⟩ := occ_dots.1 h
    refine ⟨k, List.mem_range.2 (by omega), ?_⟩
    simp only [Bool.and_eq_true, decide_eq_true_eq]
    refine ⟨h1, ?_, ?_⟩
    · rw [List.getD, List.getElem?_eq_getElem (by omega)]; exact h2
    · rw [List.getD, List.getElem?_eq_getElem (by omega)]; exact h3
theorem contains_dots (l : List UInt8) : Lib.contains l [46, 46] = dotsB l := by
  rw [Bool.eq_iff_iff, dots_iff]
  unfold Lib.contains
  rw [decide_eq_true_iff]
  rcases Lib.index_spec l [46, 46] with ⟨h1, h2⟩ | ⟨i, h1, h2, h3, _⟩
  · rw [h1]
    constructor
    · intro h; omega
    · rintro ⟨k, hk⟩
      obtain ⟨hlt, _⟩ := occ_dots.1 hk
      rw [h2 k (by omega)] at hk
      cases hk
  · rw [h1]
    exact ⟨fun _ => ⟨i, h3⟩, fun _ => by omega⟩
theorem contains_any (s : ByteArray) (w : World) (hm : Maxs w) (hs : s.size ≤ 1000000) :
    Calls Tryd.prog 91 #[.string s, .string ⟨#[46, 46]⟩] w fun e w' => e = .returned (.bool (dotsB s.data.toList)) ∧ Below w.heap.size w w' := by
  obtain ⟨m, hm⟩ := hm
  refine (Tryd.strings_Contains s ⟨#[46, 46]⟩ m w (by omega) hm).mono ?_
  rintro e w1 ⟨rfl, rfl⟩
  exact ⟨ret_bool (contains_dots _), Below.refl _ _⟩
end Go.Proofs.YtackinamkibmlaaDoor
