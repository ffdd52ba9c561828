/- Layer 9, the document's: reading an address. -/
import Derived.Test.YtngaklciclbofaaDoorA9C
import Derived.Deep.RegionHeld3
import Derived.Deep.DeepCutAuto
namespace Go.Proofs.YtngaklciclbofaaDoor
open Go.RowKit
set_option linter.unusedVariables false
set_option linter.unusedSimpArgs false

/-- where the first / stands; what is ahead of it, in small letters; where the first @ stands in that -/
def slN (s : ByteArray) : Nat := findL 47 s.data.toList
def frB (s : ByteArray) : ByteArray := ⟨(lowL (s.extract 0 (slN s)).data.toList).toArray⟩
def atN (s : ByteArray) : Nat := findL 64 (frB s).data.toList
/-- the three parts -/
def nmP (s : ByteArray) : ByteArray := (frB s).extract 0 (atN s)
def hsP (s : ByteArray) : ByteArray := (frB s).extract (atN s + 1) (frB s).size
def rsP (s : ByteArray) : ByteArray := if slN s < s.size then s.extract (slN s + 1) s.size else ⟨#[]⟩
def formB (s : ByteArray) : Bool := decide (atN s = (frB s).size) || decide (slN s + 1 = s.size)
/-- what Parse tells: its error; its parts, if there is none -/
def parE (s : ByteArray) : Int := if formB s = true then 4 else chkA (nmP s) (hsP s) (rsP s)
def me (E : Int) (s : ByteArray) : ByteArray := if E = 0 then s else ⟨#[]⟩
abbrev parV (s : ByteArray) : Value := adV (me (parE s) (nmP s)) (me (parE s) (hsP s)) (me (parE s) (rsP s))
theorem slN_le (s : ByteArray) : slN s ≤ s.size := by rw [sz_list]; exact findL_le _ _
theorem frB_size (s : ByteArray) : (frB s).size = slN s := by
  unfold frB
  rw [sz_list]
  show (lowL (s.extract 0 (slN s)).data.toList).length = slN s
  rw [lowL_len]
  have := slN_le s
  simp
  omega
theorem atN_le (s : ByteArray) : atN s ≤ (frB s).size := by rw [sz_list]; exact findL_le _ _
theorem me_no {E : Int} (h : ¬ E = 0) (s : ByteArray) : me E s = ⟨#[]⟩ := if_neg h
theorem me_yes (s : ByteArray) : me 0 s = s := if_pos rfl
set_option maxRecDepth 100000 in
set_option maxHeartbeats 4000000 in
theorem dparse_any (s : ByteArray) (w : World) (hs : s.size ≤ 1099511627776) :
    Calls Tryd.prog 9 #[.string s] w fun e w' => e = .returned (.tuple #[parV s, .int .i64 (parE s)]) ∧ Below w.heap.size w w' := by
  have hsl := slN_le s
  have hfs := frB_size s
  have hat := atN_le s
  have c1 : ∀ W, Calls Tryd.prog 28 #[.string s, .int .u8 47] W fun e w' => e = .returned (.int .i64 (slN s)) ∧ w' = W := fun W => dfind_any s 47 W (by decide) hs
  have c2 : ∀ W, Calls Tryd.prog 29 #[.string (s.extract 0 (slN s))] W fun e w' => e = .returned (.string (frB s)) ∧ Below W.heap.size W w' := fun W => reflow_any (s.extract 0 (slN s)) W (by simp; omega)
  have c3 : ∀ W, Calls Tryd.prog 28 #[.string (frB s), .int .u8 64] W fun e w' => e = .returned (.int .i64 (atN s)) ∧ w' = W := fun W => dfind_any (frB s) 64 W (by decide) (by omega)
  have c4 := Lib.hid (fun W => dcheck_any (nmP s) (hsP s) (rsP s) W)
  have hE : Hid (parE s = if (decide (atN s = (frB s).size) || decide (slN s + 1 = s.size)) = true then 4 else chkA (nmP s) (hsP s) (rsP s)) := Lib.hid rfl
  have hr : Hid (rsP s = if slN s < s.size then s.extract (slN s + 1) s.size else ⟨#[]⟩) := Lib.hid rfl
  have hn : Hid (nmP s = (frB s).extract 0 (atN s)) := Lib.hid rfl
  have hh : Hid (hsP s = (frB s).extract (atN s + 1) (frB s).size) := Lib.hid rfl
  unfold parV
  generalize parE s = E at hE ⊢
  generalize frB s = f at hfs hat c2 c3 hE hn hh
  generalize atN s = at' at hat c3 hE hn hh
  generalize slN s = sl at hsl hfs c1 c2 hE hr
  generalize nmP s = pn at c4 hE hn ⊢
  generalize hsP s = ph at c4 hE hh ⊢
  generalize rsP s = pr at c4 hE hr ⊢
  have hw1 : IntKind.i64.wrap ((sl : Int) + 1) = sl + 1 := IntWalk.i64_in _ (by omega)
  have hw2 : IntKind.i64.wrap ((at' : Int) + 1) = at' + 1 := IntWalk.i64_in _ (by omega)
  have hsl' : (sl : Int) ≤ s.size := by omega
  have C1 := Lib.hid c1
  have C2 := Lib.hid c2
  have C3 := Lib.hid c3
  have HFS := Lib.hid hfs
  clear c1 c2 c3 hfs
  by_cases ha : at' = f.size
  · have hE4 : E = 4 := hE.out.trans (if_pos (by simp [ha]))
    subst hE4
    simp only [me_no (show ¬ (4 : Int) = 0 by decide)]
    have e1 : ((at' : Int) == (f.size : Int)) = true := by simp; omega
    clear hE hn hh hr c4 ha
    simp only [adV]
    go_enter Tryd.func9, Tryd.ntmps9
    go_wp2_with fail
    refine (C1.out _).mono ?_; rintro e w1 ⟨rfl, rfl⟩
    go_wp2_with fail
    refine (C2.out _).mono ?_; rintro e w2 ⟨rfl, hb2⟩
    obtain ⟨hk2, hf2, hz2⟩ := bcellN (n := w.heap.size + 1) (by (try simp only [World.size_drew, World.size_alloc, World.size_setCell]); omega) hb2; have hz2_0 : w.heap.size < w2.heap.size := (by omega)
    go_wp2_with fail
    refine (C3.out _).mono ?_; rintro e w3 ⟨rfl, rfl⟩
    go_wp2
    refine bodyPost_ret (v := .tuple #[adV ⟨#[]⟩ ⟨#[]⟩ ⟨#[]⟩, .int .i64 4]) (by simp [results, Tryd.results9, go_sem, hk2, hz2_0]) rfl ⟨rfl, ?_⟩
    (repeat (first | (with_reducible exact Below.refl _ _) | ((with_reducible refine below_alloc ?_ ?_ _); · (first | omega | (simp; done) | (simp; omega))) | ((with_reducible refine below_setCell ?_ ?_ _); · (first | omega | (simp; done) | (simp; omega))) | (with_reducible refine Below.drew ?_) | (with_reducible refine below_drewN ?_ _) | ((with_reducible refine below_call (by assumption) ?_ ?_); · (first | omega | (simp; done) | (simp; omega)))))
  have e1 : ((at' : Int) == (f.size : Int)) = false := by simp; omega
  by_cases hsz : sl + 1 = s.size
  · have hE4 : E = 4 := hE.out.trans (if_pos (by simp [hsz]))
    subst hE4
    simp only [me_no (show ¬ (4 : Int) = 0 by decide)]
    have e2 : ((sl : Int) + 1 == (s.size : Int)) = true := by simp; omega
    clear hE hn hh hr c4 ha hsz
    simp only [adV]
    go_enter Tryd.func9, Tryd.ntmps9
    go_wp2_with fail
    refine (C1.out _).mono ?_; rintro e w1 ⟨rfl, rfl⟩
    go_wp2_with fail
    refine (C2.out _).mono ?_; rintro e w2 ⟨rfl, hb2⟩
    obtain ⟨hk2, hf2, hz2⟩ := bcellN (n := w.heap.size + 1) (by (try simp only [World.size_drew, World.size_alloc, World.size_setCell]); omega) hb2; have hz2_0 : w.heap.size < w2.heap.size := (by omega)
    go_wp2_with fail
    refine (C3.out _).mono ?_; rintro e w3 ⟨rfl, rfl⟩
    go_wp2
    refine bodyPost_ret (v := .tuple #[adV ⟨#[]⟩ ⟨#[]⟩ ⟨#[]⟩, .int .i64 4]) (by simp [results, Tryd.results9, go_sem, hk2, hz2_0]) rfl ⟨rfl, ?_⟩
    (repeat (first | (with_reducible exact Below.refl _ _) | ((with_reducible refine below_alloc ?_ ?_ _); · (first | omega | (simp; done) | (simp; omega))) | ((with_reducible refine below_setCell ?_ ?_ _); · (first | omega | (simp; done) | (simp; omega))) | (with_reducible refine Below.drew ?_) | (with_reducible refine below_drewN ?_ _) | ((with_reducible refine below_call (by assumption) ?_ ?_); · (first | omega | (simp; done) | (simp; omega)))))
  have e2 : ((sl : Int) + 1 == (s.size : Int)) = false := by simp; omega
  have hEc : E = chkA pn ph pr := hE.out.trans (if_neg (by simp [ha, hsz]))
  rw [← hEc] at c4
  have hat2 : (at' : Int) + 1 ≤ f.size := by omega
  have hat3 : (at' : Int) ≤ f.size := by omega
  have hnn : (0 : Int) ≤ (at' : Int) + 1 := by omega
  have hnn2 : (0 : Int) ≤ (sl : Int) + 1 := by omega
  clear hE hEc ha hat
  simp only [adV] at *
  go_enter Tryd.func9, Tryd.ntmps9
  go_wp2_with fail
  refine (C1.out _).mono ?_; rintro e w1 ⟨rfl, rfl⟩
  go_wp2_with fail
  refine (C2.out _).mono ?_; rintro e w2 ⟨rfl, hb2⟩
  obtain ⟨hk2, hf2, hz2⟩ := bcellN (n := w.heap.size + 1) (by (try simp only [World.size_drew, World.size_alloc, World.size_setCell]); omega) hb2; have hz2_0 : w.heap.size < w2.heap.size := (by omega)
  go_wp2_with fail
  refine (C3.out _).mono ?_; rintro e w3 ⟨rfl, rfl⟩
  go_upto_region 6 with fail
  refine wp_region_held_drew (S := fun _ => True) (by kernel_rfl) (trivial) (fun hHeld => ?_)
  (refine wpAnyH_take (i := 0) (v := ?_) rfl (by kernel_rfl) (by kernel_rfl) (by kernel_rfl) (fun _ _ _ h => h) (Or.inl ⟨by rfl, ?_⟩) (by assumption) ?_; rotate_left 1; (focus (intro wz hz; (try dsimp only at hz); (try simp only [List.getElem_toArray, List.getElem_cons_succ, List.getElem_cons_zero]); go_simp; try (with_reducible rfl); done)))
  try simp only [Act.put, List.getElem_toArray, List.getElem_cons_succ, List.getElem_cons_zero, List.setIfInBounds_toArray, List.set_cons_zero, List.set_cons_succ]
  (refine wpAnyH_take (i := 1) (v := ?_) rfl (by kernel_rfl) (by kernel_rfl) (by kernel_rfl) (fun _ _ _ h => h) (Or.inl ⟨by rfl, ?_⟩) (by assumption) ?_; rotate_left 1; (focus (intro wz hz; (try dsimp only at hz); (try simp only [List.getElem_toArray, List.getElem_cons_succ, List.getElem_cons_zero]); go_simp; try (with_reducible rfl); done)))
  try simp only [Act.put, List.getElem_toArray, List.getElem_cons_succ, List.getElem_cons_zero, List.setIfInBounds_toArray, List.set_cons_zero, List.set_cons_succ]
  (refine wpAnyH_take (i := 3) (v := ?_) rfl (by kernel_rfl) (by kernel_rfl) (by kernel_rfl) (fun _ _ _ h => h) (Or.inl ⟨by rfl, ?_⟩) (by assumption) ?_; rotate_left 1; (focus (intro wz hz; (try dsimp only at hz); (try simp only [List.getElem_toArray, List.getElem_cons_succ, List.getElem_cons_zero]); go_simp; try (with_reducible rfl); done)))
  try simp only [Act.put, List.getElem_toArray, List.getElem_cons_succ, List.getElem_cons_zero, List.setIfInBounds_toArray, List.set_cons_zero, List.set_cons_succ]
  (refine wpAnyH_take (i := 4) (v := ?_) rfl (by kernel_rfl) (by kernel_rfl) (by kernel_rfl) (fun _ _ _ h => h) (Or.inl ⟨by rfl, ?_⟩) (by assumption) ?_; rotate_left 1; (focus (intro wz hz; (try dsimp only at hz); (try simp only [List.getElem_toArray, List.getElem_cons_succ, List.getElem_cons_zero]); go_simp; try (with_reducible rfl); done)))
  try simp only [Act.put, List.getElem_toArray, List.getElem_cons_succ, List.getElem_cons_zero, List.setIfInBounds_toArray, List.set_cons_zero, List.set_cons_succ]
  (refine wpAnyH_take (i := 2) (v := ?_) rfl (by kernel_rfl) (by kernel_rfl) (by kernel_rfl) (fun _ _ _ h => h) (Or.inl ⟨by rfl, ?_⟩) (by assumption) ?_; rotate_left 1; (focus (intro wz hz; (try dsimp only at hz); (try simp only [List.getElem_toArray, List.getElem_cons_succ, List.getElem_cons_zero]); go_simp; try (with_reducible rfl); done)))
  try simp only [Act.put, List.getElem_toArray, List.getElem_cons_succ, List.getElem_cons_zero, List.setIfInBounds_toArray, List.set_cons_zero, List.set_cons_succ]
  (refine wpAnyH_take (i := 5) (v := ?_) rfl (by kernel_rfl) (by kernel_rfl) (by kernel_rfl) (fun _ _ _ h => h) (Or.inl ⟨by rfl, ?_⟩) (by assumption) ?_; rotate_left 1; (focus (intro wz hz; (try dsimp only at hz); (try simp only [List.getElem_toArray, List.getElem_cons_succ, List.getElem_cons_zero]); go_simp; try (with_reducible rfl); done)))
  try simp only [Act.put, List.getElem_toArray, List.getElem_cons_succ, List.getElem_cons_zero, List.setIfInBounds_toArray, List.set_cons_zero, List.set_cons_succ]
  (refine wpAnyH_take (i := 6) (v := ?_) rfl (by kernel_rfl) (by kernel_rfl) (by kernel_rfl) (fun _ _ _ h => h) (Or.inl ⟨by rfl, ?_⟩) (by assumption) ?_; rotate_left 1; (focus (intro wz hz; (try dsimp only at hz); (try simp only [List.getElem_toArray, List.getElem_cons_succ, List.getElem_cons_zero]); go_simp; try (with_reducible rfl); done)))
  try simp only [Act.put, List.getElem_toArray, List.getElem_cons_succ, List.getElem_cons_zero, List.setIfInBounds_toArray, List.set_cons_zero, List.set_cons_succ]
  (refine wpAnyH_take (i := 7) (v := ?_) rfl (by kernel_rfl) (by kernel_rfl) (by kernel_rfl) (fun _ _ _ h => h) (Or.inl ⟨by rfl, ?_⟩) (by assumption) ?_; rotate_left 1; (focus (intro wz hz; (try dsimp only at hz); (try simp only [List.getElem_toArray, List.getElem_cons_succ, List.getElem_cons_zero]); go_simp; try (with_reducible rfl); done)))
  try simp only [Act.put, List.getElem_toArray, List.getElem_cons_succ, List.getElem_cons_zero, List.setIfInBounds_toArray, List.set_cons_zero, List.set_cons_succ]
  (refine wpAnyH_ready (rs := [8]) (by kernel_rfl) (by simp) ?_; refine AllReadyH.cons rfl (fun K hK => ?_) AllReadyH.nil; (try simp only [List.getElem_toArray, List.getElem_cons_succ, List.getElem_cons_zero]); skip; go_simp; refine hK.out _ _ (trivial) (fun hHeld => ?_); clear hK K)
  try simp only [Act.put, List.getElem_toArray, List.getElem_cons_succ, List.getElem_cons_zero, List.setIfInBounds_toArray, List.set_cons_zero, List.set_cons_succ]
  (refine wpAnyH_ready (rs := [9]) (by kernel_rfl) (by simp) ?_; refine AllReadyH.cons rfl (fun K hK => ?_) AllReadyH.nil; (try simp only [List.getElem_toArray, List.getElem_cons_succ, List.getElem_cons_zero]); skip; go_simp; refine hK.out _ _ (trivial) (fun hHeld => ?_); clear hK K)
  try simp only [Act.put, List.getElem_toArray, List.getElem_cons_succ, List.getElem_cons_zero, List.setIfInBounds_toArray, List.set_cons_zero, List.set_cons_succ]
  refine wpAnyH_done (by kernel_rfl) ?_ _
  clear hHeld
  obtain rfl := hn.out
  obtain rfl := hh.out
  have hr0 : ∀ o, w3.heap.size ≠ w.heap.size := fun _ => by omega
  have hz2' : w.heap.size ≠ w3.heap.size := by omega
  by_cases hlt : sl < s.size
  · obtain rfl := hr.out.trans (if_pos hlt)
    have hlt' : (sl : Int) < s.size := by omega
    have hsl1 : (sl : Int) + 1 ≤ s.size := by omega
    clear hr hlt
    go_wp2_with fail
    refine (c4.out _).mono ?_; rintro e w4 ⟨rfl, hb4⟩
    obtain ⟨hk4, hf4, hz4⟩ := bcellN (n := w.heap.size + 1) (by (try simp only [World.size_drew, World.size_alloc, World.size_setCell]); omega) hb4; have hz4_0 : w.heap.size < w4.heap.size := (by omega); obtain ⟨hk4w3, hf4w3, hz4w3⟩ := bcellAt (b := w3.heap.size) (by (try simp only [World.size_drew, World.size_alloc, World.size_setCell]); omega) hb4
    by_cases hE0 : E = 0
    · have e0 : (E != 0) = false := by simp [hE0]
      subst hE0
      simp only [me_yes]
      go_wp2
      refine bodyPost_ret (v := .tuple #[adV (f.extract 0 at') (f.extract (at' + 1) f.size) (s.extract (sl + 1) s.size), .int .i64 0]) (by simp [results, Tryd.results9, go_sem, hk4, hz4_0, hk2, hz2_0]) rfl ⟨rfl, ?_⟩
      (repeat (first | (with_reducible exact Below.refl _ _) | ((with_reducible refine below_alloc ?_ ?_ _); · (first | omega | (simp; done) | (simp; omega))) | ((with_reducible refine below_setCell ?_ ?_ _); · (first | omega | (simp; done) | (simp; omega))) | (with_reducible refine Below.drew ?_) | (with_reducible refine below_drewN ?_ _) | ((with_reducible refine below_call (by assumption) ?_ ?_); · (first | omega | (simp; done) | (simp; omega)))))
    · have e0 : (E != 0) = true := by simp [hE0]
      simp only [me_no hE0]
      go_wp2_with fail
      refine (c4.out _).mono ?_; rintro e w5 ⟨rfl, hb5⟩
      obtain ⟨hk5, hf5, hz5⟩ := bcellN (n := w.heap.size + 1) (by (try simp only [World.size_drew, World.size_alloc, World.size_setCell]); omega) hb5; have hz5_0 : w.heap.size < w5.heap.size := (by omega); obtain ⟨hk5w3, hf5w3, hz5w3⟩ := bcellAt (b := w3.heap.size) (by (try simp only [World.size_drew, World.size_alloc, World.size_setCell]); omega) hb5
      go_wp2
      refine bodyPost_ret (v := .tuple #[adV ⟨#[]⟩ ⟨#[]⟩ ⟨#[]⟩, .int .i64 E]) (by simp [results, Tryd.results9, go_sem, hk5, hz5_0, hk4, hz4_0, hk2, hz2_0]) rfl ⟨by simp only [adV, me_no hE0], ?_⟩
      (repeat (first | (with_reducible exact Below.refl _ _) | ((with_reducible refine below_alloc ?_ ?_ _); · (first | omega | (simp; done) | (simp; omega))) | ((with_reducible refine below_setCell ?_ ?_ _); · (first | omega | (simp; done) | (simp; omega))) | (with_reducible refine Below.drew ?_) | (with_reducible refine below_drewN ?_ _) | ((with_reducible refine below_call (by assumption) ?_ ?_); · (first | omega | (simp; done) | (simp; omega)))))
  · obtain rfl := hr.out.trans (if_neg hlt)
    have hlt' : ¬ (sl : Int) < s.size := by omega
    clear hr hlt
    go_wp2_with fail
    refine (c4.out _).mono ?_; rintro e w4 ⟨rfl, hb4⟩
    obtain ⟨hk4, hf4, hz4⟩ := bcellN (n := w.heap.size + 1) (by (try simp only [World.size_drew, World.size_alloc, World.size_setCell]); omega) hb4; have hz4_0 : w.heap.size < w4.heap.size := (by omega); obtain ⟨hk4w3, hf4w3, hz4w3⟩ := bcellAt (b := w3.heap.size) (by (try simp only [World.size_drew, World.size_alloc, World.size_setCell]); omega) hb4
    by_cases hE0 : E = 0
    · have e0 : (E != 0) = false := by simp [hE0]
      subst hE0
      simp only [me_yes]
      go_wp2
      refine bodyPost_ret (v := .tuple #[adV (f.extract 0 at') (f.extract (at' + 1) f.size) ⟨#[]⟩, .int .i64 0]) (by simp [results, Tryd.results9, go_sem, hk4, hz4_0, hk2, hz2_0]) rfl ⟨rfl, ?_⟩
      (repeat (first | (with_reducible exact Below.refl _ _) | ((with_reducible refine below_alloc ?_ ?_ _); · (first | omega | (simp; done) | (simp; omega))) | ((with_reducible refine below_setCell ?_ ?_ _); · (first | omega | (simp; done) | (simp; omega))) | (with_reducible refine Below.drew ?_) | (with_reducible refine below_drewN ?_ _) | ((with_reducible refine below_call (by assumption) ?_ ?_); · (first | omega | (simp; done) | (simp; omega)))))
    · have e0 : (E != 0) = true := by simp [hE0]
      simp only [me_no hE0]
      go_wp2_with fail
      refine (c4.out _).mono ?_; rintro e w5 ⟨rfl, hb5⟩
      obtain ⟨hk5, hf5, hz5⟩ := bcellN (n := w.heap.size + 1) (by (try simp only [World.size_drew, World.size_alloc, World.size_setCell]); omega) hb5; have hz5_0 : w.heap.size < w5.heap.size := (by omega); obtain ⟨hk5w3, hf5w3, hz5w3⟩ := bcellAt (b := w3.heap.size) (by (try simp only [World.size_drew, World.size_alloc, World.size_setCell]); omega) hb5
      go_wp2
      refine bodyPost_ret (v := .tuple #[adV ⟨#[]⟩ ⟨#[]⟩ ⟨#[]⟩, .int .i64 E]) (by simp [results, Tryd.results9, go_sem, hk5, hz5_0, hk4, hz4_0, hk2, hz2_0]) rfl ⟨by simp only [adV, me_no hE0], ?_⟩
      (repeat (first | (with_reducible exact Below.refl _ _) | ((with_reducible refine below_alloc ?_ ?_ _); · (first | omega | (simp; done) | (simp; omega))) | ((with_reducible refine below_setCell ?_ ?_ _); · (first | omega | (simp; done) | (simp; omega))) | (with_reducible refine Below.drew ?_) | (with_reducible refine below_drewN ?_ _) | ((with_reducible refine below_call (by assumption) ?_ ?_); · (first | omega | (simp; done) | (simp; omega)))))
end Go.Proofs.YtngaklciclbofaaDoor
