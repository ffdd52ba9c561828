/- Layer 11, the document's: a text's frame; the first frame of bytes. -/
import Derived.Test.YtackinamkibmlaaDoorR11M
import Derived.Test.YtackinamkibmlaaDoorKitE
import Derived.Test.YtackinamkibmlaaDoorKitM
import Derived.Deep.QuietTactic
import Derived.Deep.RegionHeld3
import Derived.BigQuiet
import Derived.Test.YtackinamkibmlaaDoorKitT
import Derived.Test.YtackinamkibmlaaDoorOctAH
import Derived.Test.YtackinamkibmlaaDoorClone
namespace Go.Proofs.YtackinamkibmlaaDoor
open Go.RowKit
set_option linter.unusedVariables false
set_option linter.unusedSimpArgs false

/-- what Get tells -/
abbrev getV (l : List UInt8) : Value := .tuple #[.string (gtS l), .int .i64 (gtN l : Int), .int .i64 (gtE l)]
theorem getD0 (b : ByteArray) (k : Nat) (h : k < b.size) : b.data.toList.getD k 0 = b[k]'h := by
  have hl : k < b.data.toList.length := by rw [← list_sz]; exact h
  rw [List.getD, List.getElem?_eq_getElem hl]
  rfl
theorem gtS_ext {b : ByteArray} (h : gtE b.data.toList = 0) : gtS b.data.toList = b.extract 2 (2 + lenG b.data.toList) := by
  unfold gtS
  rw [if_pos h]
  apply ByteArray.ext
  rw [ByteArray.data_extract]
  apply Array.toList_inj.1
  simp
end Go.Proofs.YtackinamkibmlaaDoor
namespace Go.Proofs.YtackinamkibmlaaDoor
open Go.RowKit
set_option linter.unusedVariables false
set_option linter.unusedSimpArgs false

theorem ext_list (b : ByteArray) (a : Nat) : (b.extract a b.size).data.toList = b.data.toList.drop a := by
  rw [ByteArray.data_extract]
  simp
  rw [List.take_of_length_le]
  simp
/-- what stands where the frames are gone over: those that are done, and the rest -/
def Done (b : ByteArray) (done : List ByteArray) (a : Nat) : Prop := pr b.data.toList = (done ++ (pr (b.data.toList.drop a)).1, (pr (b.data.toList.drop a)).2) ∧ 3 * done.length ≤ a
theorem Done.start (b : ByteArray) : Done b [] 0 := ⟨by simp, Nat.zero_le _⟩
theorem Done.go {b : ByteArray} {done : List ByteArray} {a : Nat} (h : Done b done a) (hE : gtE (b.data.toList.drop a) = 0) :
    Done b (done ++ [gtS (b.data.toList.drop a)]) (a + gtN (b.data.toList.drop a)) ∧ 3 ≤ gtN (b.data.toList.drop a) ∧ a + gtN (b.data.toList.drop a) ≤ b.size := by
  obtain ⟨h1, h2, h3, h4, h5⟩ := gt_bwd hE
  have hz := h1.1
  rw [List.length_drop, ← list_sz] at h5
  refine ⟨⟨?_, ?_⟩, by omega, by omega⟩
  · rw [h.1, pr_yes hE, List.drop_drop]
    simp
  · have := h.2
    rw [List.length_append, List.length_singleton]
    omega
theorem Done.stop {b : ByteArray} {done : List ByteArray} {a : Nat} (h : Done b done a) (hE : ¬ gtE (b.data.toList.drop a) = 0) (ha : a < b.size) :
    alE b.data.toList = gtE (b.data.toList.drop a) ∧ alL b.data.toList = [] ∧ cnt b.data.toList = done.length := by
  have h1 := h.1
  rw [pr_no hE] at h1
  have hne : b.data.toList.drop a ≠ [] := by
    intro e
    have := congrArg List.length e
    rw [List.length_drop, ← list_sz] at this
    simp at this
    omega
  have he : alE b.data.toList = gtE (b.data.toList.drop a) := by
    unfold alE
    rw [h1, if_neg hne]
  refine ⟨he, ?_, ?_⟩
  · unfold alL
    rw [he, if_neg hE]
  · unfold cnt
    rw [h1]
    simp
theorem Done.fin {b : ByteArray} {done : List ByteArray} (h : Done b done b.size) : alE b.data.toList = 0 ∧ alL b.data.toList = done ∧ cnt b.data.toList = done.length := by
  have h1 := h.1
  rw [list_sz b, List.drop_length, pr_nil, List.append_nil] at h1
  have he : alE b.data.toList = 0 := by
    unfold alE
    rw [h1, if_pos rfl]
  refine ⟨he, ?_, ?_⟩
  · unfold alL
    rw [if_pos he, h1]
  · unfold cnt
    rw [h1]
end Go.Proofs.YtackinamkibmlaaDoor
namespace Go.Proofs.YtackinamkibmlaaDoor
open Go.RowKit
set_option linter.unusedVariables false
set_option linter.unusedSimpArgs false

/-- the frames of the first k texts -/
def jnK (l : List ByteArray) (k : Nat) : ByteArray := ⟨((l.take k).flatMap frmB).toArray⟩
theorem jnK_next {l : List ByteArray} {k : Nat} (hk : k < l.length) (ho : okF l[k]) : jnK l (k + 1) = jnK l k ++ fpT l[k] := by
  unfold jnK
  rw [fpT_ok ho]
  apply ByteArray.ext
  apply Array.toList_inj.1
  have e : ((⟨((l.take k).flatMap frmB).toArray⟩ : ByteArray) ++ ⟨(frmB l[k]).toArray⟩).data.toList = (l.take k).flatMap frmB ++ frmB l[k] := by simp
  rw [e]
  show (l.take (k + 1)).flatMap frmB = _
  rw [List.take_succ_eq_append_getElem hk, List.flatMap_append, List.flatMap_cons, List.flatMap_nil, List.append_nil]
theorem jnK_size {l : List ByteArray} : ∀ k, (∀ j (h : j < l.length), j < k → okF l[j]) → (jnK l k).size ≤ 130 * k
  | 0, _ => by simp [jnK, ByteArray.size]
  | k + 1, h => by
    have ih := jnK_size k (fun j hj hlt => h j hj (by omega))
    by_cases hk : k < l.length
    · rw [jnK_next hk (h k hk (by omega)), ByteArray.size_append]
      have := fsz_le l[k]
      unfold fsz at this
      omega
    · have e : jnK l (k + 1) = jnK l k := by
        unfold jnK
        rw [List.take_of_length_le (by omega), List.take_of_length_le (by omega)]
      rw [e]
      omega
theorem jn_first {l : List ByteArray} {k : Nat} (hk : k < l.length) (hok : ∀ j (h : j < l.length), j < k → okF l[j]) (hb : ¬ fpE l[k] = 0) : jnE l = fpE l[k] := by
  induction l generalizing k with
  | nil => cases hk
  | cons s l ih =>
    unfold jnE
    cases k with
    | zero => exact if_neg hb
    | succ k =>
      have h0 : okF s := hok 0 (by simp) (by omega)
      rw [if_pos (fpE_ok.2 h0)]
      exact ih (by simpa using hk) (fun j hj hlt => hok (j + 1) (by simpa using hj) (by omega)) hb
theorem jn_whole {l : List ByteArray} (hok : ∀ j (h : j < l.length), okF l[j]) : jnE l = 0 ∧ jnT l = jnK l l.length := by
  have he : jnE l = 0 := jn_ok.2 (fun s hs => by
    obtain ⟨j, hj, rfl⟩ := List.mem_iff_getElem.1 hs
    exact hok j hj)
  refine ⟨he, ?_⟩
  unfold jnT jnK
  rw [if_pos he, List.take_length]
theorem fit_go {l : List ByteArray} {k : Nat} {m m' : Int} (hk : k < l.length) (h : fitN l m = k + fitN (l.drop k) m') (h1 : 0 < fsz l[k] ∧ (fsz l[k] : Int) ≤ m') : fitN l m = (k + 1) + fitN (l.drop (k + 1)) (m' - fsz l[k]) := by
  rw [h, List.drop_eq_getElem_cons hk]
  have : fitN (l[k] :: l.drop (k + 1)) m' = fitN (l.drop (k + 1)) (m' - fsz l[k]) + 1 := if_pos h1
  rw [this]
  omega
theorem fit_stop {l : List ByteArray} {k : Nat} {m m' : Int} (hk : k < l.length) (h : fitN l m = k + fitN (l.drop k) m') (h1 : ¬ (0 < fsz l[k] ∧ (fsz l[k] : Int) ≤ m')) : fitN l m = k := by
  rw [h, List.drop_eq_getElem_cons hk]
  have : fitN (l[k] :: l.drop (k + 1)) m' = 0 := if_neg h1
  rw [this]
  omega
theorem fit_fin {l : List ByteArray} {m m' : Int} (h : fitN l m = l.length + fitN (l.drop l.length) m') : fitN l m = l.length := by
  rw [h, List.drop_length]
  rfl
end Go.Proofs.YtackinamkibmlaaDoor
namespace Go.Proofs.YtackinamkibmlaaDoor
open Go.RowKit
set_option linter.unusedVariables false
set_option linter.unusedSimpArgs false

/-- what is wrong with a text of so many bytes -/
def lnE (n : Int) : Int := if n = 0 then 4 else if 128 < n then 5 else 0
theorem lnE_sz (s : ByteArray) : lnE s.size = fpE s := by
  unfold lnE fpE
  by_cases h : s.size = 0
  · rw [if_pos (by omega), if_pos h]
  · rw [if_neg (by omega), if_neg h]
    by_cases h2 : 128 < s.size
    · rw [if_pos (by omega), if_pos h2]
    · rw [if_neg (by omega), if_neg h2]
theorem clen_any (n : Int) (w : World) (h0 : 0 ≤ n) :
    Calls Tryd.prog 32 #[.int .i64 n] w fun e w' => e = .returned (.int .i64 (lnE n)) ∧ Below w.heap.size w w' := by
  by_cases h : n = 0
  · subst h
    go_enter Tryd.func32, Tryd.ntmps32
    go_wp2
    go_ret
    exact ⟨rfl, by (repeat (first | (with_reducible exact Below.refl _ _) | ((with_reducible refine below_alloc ?_ ?_ _); · (first | omega | (simp; done) | (simp; omega))) | ((with_reducible refine below_setCell ?_ ?_ _); · (first | omega | (simp; done) | (simp; omega))) | (with_reducible refine Below.drew ?_) | (with_reducible refine below_drewN ?_ _) | ((with_reducible refine below_call (by assumption) ?_ ?_); · (first | omega | (simp; done) | (simp; omega)))))⟩
  have hb : (n == 0) = false := by simpa using h
  by_cases h2 : (128 : Int) < n
  · have HE : Hid (lnE n = 5) := Lib.hid (by unfold lnE; rw [if_neg h, if_pos h2])
    go_enter Tryd.func32, Tryd.ntmps32
    go_wp2
    go_ret
    exact ⟨ret_int (by rw [HE.out]), by (repeat (first | (with_reducible exact Below.refl _ _) | ((with_reducible refine below_alloc ?_ ?_ _); · (first | omega | (simp; done) | (simp; omega))) | ((with_reducible refine below_setCell ?_ ?_ _); · (first | omega | (simp; done) | (simp; omega))) | (with_reducible refine Below.drew ?_) | (with_reducible refine below_drewN ?_ _) | ((with_reducible refine below_call (by assumption) ?_ ?_); · (first | omega | (simp; done) | (simp; omega)))))⟩
  have HE : Hid (lnE n = 0) := Lib.hid (by unfold lnE; rw [if_neg h, if_neg h2])
  go_enter Tryd.func32, Tryd.ntmps32
  go_wp2
  go_ret
  exact ⟨ret_int (by rw [HE.out]), by (repeat (first | (with_reducible exact Below.refl _ _) | ((with_reducible refine below_alloc ?_ ?_ _); · (first | omega | (simp; done) | (simp; omega))) | ((with_reducible refine below_setCell ?_ ?_ _); · (first | omega | (simp; done) | (simp; omega))) | (with_reducible refine Below.drew ?_) | (with_reducible refine below_drewN ?_ _) | ((with_reducible refine below_call (by assumption) ?_ ?_); · (first | omega | (simp; done) | (simp; omega)))))⟩
theorem lay2 {s : ByteArray} (ho : okF s) : layE s.size 2 = 0 ∧ fpT s = ⟨(layL s.size 2).toArray⟩ ++ s ∧ (layL s.size 2).length ≤ 2 := by
  have h1 := ho.1
  have h2 := ho.2
  have hE : layE s.size 2 = 0 := by
    unfold layE
    rw [if_neg (by decide), if_neg]
    intro h
    rcases h with h | h
    · omega
    · rw [show ((2 : Int).toNat) = 2 from rfl] at h
      have : (256 : Int) ^ 2 = 65536 := by decide
      rw [this] at h
      omega
  refine ⟨hE, ?_⟩
  have hL : layL s.size 2 = [UInt8.ofNat (s.size / 256), UInt8.ofNat (s.size % 256)] := by
    unfold layL
    rw [if_pos hE]
    show [dig s.size 1, dig s.size 0] = _
    unfold dig
    have a1 : ((s.size : Int) / 256 ^ 1 % 256).toNat = s.size / 256 := by
      rw [show (256 : Int) ^ 1 = 256 by decide]
      omega
    have a0 : ((s.size : Int) / 256 ^ 0 % 256).toNat = s.size % 256 := by
      rw [show (256 : Int) ^ 0 = 1 by decide]
      omega
    rw [a1, a0]
  rw [hL]
  refine ⟨?_, by simp⟩
  rw [fpT_ok ho]
  apply ByteArray.ext
  apply Array.toList_inj.1
  simp [frmB]
set_option maxRecDepth 100000 in
set_option maxHeartbeats 1000000 in
theorem fput_any (s : ByteArray) (w : World) (hs : s.size ≤ 1000000) :
    Calls Tryd.prog 45 #[.string s] w fun e w' => e = .returned (.tuple #[.string (fpT s), .int .i64 (fpE s)]) ∧ Below w.heap.size w w' := by
  have c := Lib.hid (clen_any s.size w (by omega))
  rw [lnE_sz] at c
  by_cases ho : okF s
  · rw [fpE_ok.2 ho] at c
    have HE : Hid (fpE s = 0) := Lib.hid (fpE_ok.2 ho)
    obtain ⟨hE, hT, hl⟩ := lay2 ho
    have HT := Lib.hid hT
    have hz := ho.2
    have c2 := Lib.hid (fun W => lay_any s.size 2 W (by omega) (by omega))
    rw [hE] at c2
    generalize layL s.size 2 = L at c2 HT hl
    clear ho hE hT
    go_enter Tryd.func45, Tryd.ntmps45
    go_wp2_with fail
    refine c.out.mono ?_; rintro e w1 ⟨rfl, hb1⟩
    go_wp2_with fail
    refine (c2.out _).mono ?_; rintro e w2 ⟨v, rfl, hv, hb2⟩
    have hst := hv.str
    go_wp2
    go_ret2
    exact ⟨by rw [HT.out, HE.out]; rfl, hb1.trans (hb2.mono hb1.size)⟩
  · have hE : fpE s ≠ 0 := fun h => ho (fpE_ok.1 h)
    have e0 : (fpE s != 0) = true := by simp [hE]
    have HT : Hid (fpT s = ⟨#[]⟩) := Lib.hid (fpT_no ho)
    generalize fpE s = E at c e0 ⊢
    clear hE ho
    go_enter Tryd.func45, Tryd.ntmps45
    go_wp2_with fail
    refine c.out.mono ?_; rintro e w1 ⟨rfl, hb1⟩
    go_wp2
    go_ret2
    exact ⟨by rw [HT.out]; rfl, hb1⟩
theorem be2 {b : ByteArray} (h : 2 ≤ b.size) : be (cut b 0 2) = (lenG b.data.toList : Int) := by
  have k0 : 0 < b.size := by omega
  have k1 : 1 < b.size := by omega
  have e : cut b 0 2 = [b[0]'k0, b[1]'k1] := by
    have h1 := cut_succ (s := b) (a := 0) (k := 0) (by omega)
    have h2 := cut_succ (s := b) (a := 0) (k := 1) (by omega)
    rw [h2, h1]
    rfl
  rw [e]
  unfold lenG
  rw [getD0 b 0 k0, getD0 b 1 k1]
  simp [be]
theorem num2_cut {b : ByteArray} (h : b.size < 2) : numV b 0 0 2 = .tuple #[.agg #[.string b, .int .i64 0, .int .i64 3], .int .i64 0] :=
  numV_cut (by unfold chk; rw [if_neg (by omega)]) (by decide) (by omega)
theorem num2_ok {b : ByteArray} (h : 2 ≤ b.size) : numV b 0 0 2 = .tuple #[.agg #[.string b, .int .i64 2, .int .i64 0], .int .i64 (lenG b.data.toList : Int)] := by
  rw [numV_ok (by unfold chk; rw [if_neg (by omega)]) (by decide) (by omega), ← be2 h]
  rfl
end Go.Proofs.YtackinamkibmlaaDoor
namespace Go.Proofs.YtackinamkibmlaaDoor
open Go.RowKit
set_option linter.unusedVariables false
set_option linter.unusedSimpArgs false

theorem left2 {b : ByteArray} (h : 2 ≤ b.size) : leftN b 2 0 = (b.size : Int) - 2 := leftN_ok (by unfold chk; rw [if_neg (by omega)])
set_option maxRecDepth 100000 in
set_option maxHeartbeats 4000000 in
theorem fget_big (b : ByteArray) (w : World) (hs : b.size ≤ 4000000) :
    Calls Tryd.prog 16 #[.string b] w fun e w' => e = .returned (getV b.data.toList) ∧ Below w.heap.size w w' := by
  have hbl := list_sz b
  have cN := Lib.hid (fun W => num_any b 0 0 2 W (by unfold maxLen; omega))
  have cO := Lib.hid (fun W => open_any b W)
  by_cases h2 : b.size < 2
  · have hE : gtE b.data.toList = 3 := if_pos (by omega)
    have hV : Hid (getV b.data.toList = .tuple #[.string ⟨#[]⟩, .int .i64 0, .int .i64 3]) := Lib.hid (by simp [getV, gtS, gtN, hE])
    rw [num2_cut h2] at cN
    clear hE h2 hbl
    go_enter Tryd.func16, Tryd.ntmps16
    go_wp2_with fail
    refine (cO.out _).mono ?_; rintro e w1 ⟨rfl, hb1⟩
    go_wp2_with fail
    refine (cN.out _).mono ?_; rintro e w2 ⟨rfl, hb2⟩
    have B2 : Below w.heap.size w w2 := hb1.trans (hb2.mono hb1.size)
    have z2 := B2.size
    go_wp2
    refine wp_region_held_drew (S := fun W => W.cell? ⟨w2.heap.size, 2, none⟩ = some (.int .i64 3)) (by kernel_rfl) (by simp [go_sem]) (fun hHeld => ?_)
    (refine wpAnyH_take (i := 0) (v := ?_) rfl (by kernel_rfl) (by kernel_rfl) (by kernel_rfl) (fun _ _ _ h => h) (Or.inl ⟨by rfl, ?_⟩) (by assumption) ?_; rotate_left 1; (focus (intro wz hz; (try dsimp only at hz); (try simp only [List.getElem_toArray, List.getElem_cons_succ, List.getElem_cons_zero]); go_simp; (try (rw [if_neg (by (try simp only [ByteArray.size_append]); omega)])); try (with_reducible rfl); done)))
    try simp only [Act.put, List.getElem_toArray, List.getElem_cons_succ, List.getElem_cons_zero, List.setIfInBounds_toArray, List.set_cons_zero, List.set_cons_succ]
    (refine wpAnyH_take (i := 2) (v := ?_) rfl (by kernel_rfl) (by kernel_rfl) (by kernel_rfl) (fun _ _ _ h => h) (Or.inl ⟨by rfl, ?_⟩) (by assumption) ?_; rotate_left 1; (focus (intro wz hz; (try dsimp only at hz); (try simp only [List.getElem_toArray, List.getElem_cons_succ, List.getElem_cons_zero]); go_simp; (try (rw [if_neg (by (try simp only [ByteArray.size_append]); omega)])); try (with_reducible rfl); done)))
    try simp only [Act.put, List.getElem_toArray, List.getElem_cons_succ, List.getElem_cons_zero, List.setIfInBounds_toArray, List.set_cons_zero, List.set_cons_succ]
    (refine wpAnyH_take (i := 1) (v := ?_) rfl (by kernel_rfl) (by kernel_rfl) (by kernel_rfl) (fun _ _ _ h => h) (Or.inl ⟨by rfl, ?_⟩) (by assumption) ?_; rotate_left 1; (focus (intro wz hz; (try dsimp only at hz); (try simp only [List.getElem_toArray, List.getElem_cons_succ, List.getElem_cons_zero]); go_simp; (try (rw [if_neg (by (try simp only [ByteArray.size_append]); omega)])); try (with_reducible rfl); done)))
    try simp only [Act.put, List.getElem_toArray, List.getElem_cons_succ, List.getElem_cons_zero, List.setIfInBounds_toArray, List.set_cons_zero, List.set_cons_succ]
    (refine wpAnyH_take (i := 3) (v := ?_) rfl (by kernel_rfl) (by kernel_rfl) (by kernel_rfl) (fun _ _ _ h => h) (Or.inl ⟨by rfl, ?_⟩) (by assumption) ?_; rotate_left 1; (focus (intro wz hz; (try dsimp only at hz); (try simp only [List.getElem_toArray, List.getElem_cons_succ, List.getElem_cons_zero]); go_simp; (try (rw [if_neg (by (try simp only [ByteArray.size_append]); omega)])); try (with_reducible rfl); done)))
    try simp only [Act.put, List.getElem_toArray, List.getElem_cons_succ, List.getElem_cons_zero, List.setIfInBounds_toArray, List.set_cons_zero, List.set_cons_succ]
    (refine wpAnyH_take (i := 4) (v := ?_) rfl (by kernel_rfl) (by kernel_rfl) (by kernel_rfl) (fun _ _ _ h => h) (Or.inl ⟨by rfl, ?_⟩) (by assumption) ?_; rotate_left 1; (focus (intro wz hz; (try dsimp only at hz); (try simp only [List.getElem_toArray, List.getElem_cons_succ, List.getElem_cons_zero]); go_simp; (try (rw [if_neg (by (try simp only [ByteArray.size_append]); omega)])); try (with_reducible rfl); done)))
    try simp only [Act.put, List.getElem_toArray, List.getElem_cons_succ, List.getElem_cons_zero, List.setIfInBounds_toArray, List.set_cons_zero, List.set_cons_succ]
    refine wpAnyH_done (by kernel_rfl) ?_ _
    go_wp2
    refine bodyPost_ret (v := .tuple #[.string ⟨#[]⟩, .int .i64 0, .int .i64 3]) (by simp [results, Tryd.results16, go_sem]) rfl ?_
    exact ⟨by rw [hV.out], by (repeat (first | (with_reducible exact Below.refl _ _) | ((with_reducible refine below_alloc ?_ ?_ _); · (first | omega | (simp; done) | (simp; omega))) | ((with_reducible refine below_setCell ?_ ?_ _); · (first | omega | (simp; done) | (simp; omega))) | (with_reducible refine Below.drew ?_) | (with_reducible refine below_drewN ?_ _) | ((with_reducible refine below_call (by assumption) ?_ ?_); · (first | omega | (simp; done) | (simp; omega)))))⟩
  have h2' : 2 ≤ b.size := by omega
  have hLf := left2 h2'
  rw [num2_ok h2'] at cN
  obtain ⟨n, hn⟩ : ∃ n : Nat, lenG b.data.toList = n := ⟨_, rfl⟩
  rw [hn] at cN
  have cL := Lib.hid (fun W => left_any b 2 0 W (by unfold maxLen; omega))
  rw [hLf] at cL
  have cC := Lib.hid (fun W => clen_any n W (by omega))
  have hE : Hid (gtE b.data.toList = if n = 0 then 4 else if 128 < n then 5 else if b.size - 2 < n then 3 else 0) := Lib.hid (by
    unfold gtE
    rw [hn, ← hbl, if_neg (by omega)])
  have hz : Hid (lnE n = if n = 0 then 4 else if 128 < n then 5 else 0) := Lib.hid (by
    unfold lnE
    by_cases n0 : n = 0
    · rw [if_pos (by omega), if_pos n0]
    · rw [if_neg (by omega), if_neg n0]
      by_cases n1 : 128 < n
      · rw [if_pos (by omega), if_pos n1]
      · rw [if_neg (by omega), if_neg n1])
  clear hLf hbl h2
  by_cases n0 : n = 0 ∨ 128 < n
  · have hZ : lnE n ≠ 0 ∧ gtE b.data.toList = lnE n := by
      rw [hE.out, hz.out]
      rcases n0 with n0 | n0
      · rw [if_pos n0, if_pos n0]
        exact ⟨by decide, rfl⟩
      · have : ¬ n = 0 := by omega
        rw [if_neg this, if_neg this, if_pos n0, if_pos n0]
        exact ⟨by decide, rfl⟩
    obtain ⟨z1, z2⟩ := hZ
    have e0 : (lnE n != 0) = true := by simpa using z1
    rw [← z2] at z1
    have hV : Hid (getV b.data.toList = .tuple #[.string ⟨#[]⟩, .int .i64 0, .int .i64 (lnE n)]) := Lib.hid (by simp only [getV, gtS, gtN, if_neg z1]; rw [z2]; rfl)
    generalize lnE n = E at cC e0 hV
    clear hE hz z1 z2 hn n0
    go_enter Tryd.func16, Tryd.ntmps16
    go_wp2_with fail
    refine (cO.out _).mono ?_; rintro e w1 ⟨rfl, hb1⟩
    go_wp2_with fail
    refine (cN.out _).mono ?_; rintro e w2 ⟨rfl, hb2⟩
    have B2 : Below w.heap.size w w2 := hb1.trans (hb2.mono hb1.size)
    have z2 := B2.size
    go_wp2_with fail
    refine (cC.out _).mono ?_; rintro e w3 ⟨rfl, hb3⟩
    have B3 : Below w.heap.size w w3 := by (repeat (first | (with_reducible exact Below.refl _ _) | ((with_reducible refine below_alloc ?_ ?_ _); · (first | omega | (simp; done) | (simp; omega))) | ((with_reducible refine below_setCell ?_ ?_ _); · (first | omega | (simp; done) | (simp; omega))) | (with_reducible refine Below.drew ?_) | (with_reducible refine below_drewN ?_ _) | ((with_reducible refine below_call (by assumption) ?_ ?_); · (first | omega | (simp; done) | (simp; omega)))))
    go_wp2
    refine bodyPost_ret (v := .tuple #[.string ⟨#[]⟩, .int .i64 0, .int .i64 E]) (by simp [results, Tryd.results16, go_sem]) rfl ?_
    exact ⟨by rw [hV.out], by (repeat (first | (with_reducible exact Below.refl _ _) | ((with_reducible refine below_alloc ?_ ?_ _); · (first | omega | (simp; done) | (simp; omega))) | ((with_reducible refine below_setCell ?_ ?_ _); · (first | omega | (simp; done) | (simp; omega))) | (with_reducible refine Below.drew ?_) | (with_reducible refine below_drewN ?_ _) | ((with_reducible refine below_call (by assumption) ?_ ?_); · (first | omega | (simp; done) | (simp; omega)))))⟩
  have n1 : ¬ n = 0 := fun h => n0 (.inl h)
  have n2 : ¬ 128 < n := fun h => n0 (.inr h)
  have hZ : lnE n = 0 := by rw [hz.out, if_neg n1, if_neg n2]
  have hE' := hE.out
  rw [if_neg n1, if_neg n2] at hE'
  rw [hZ] at cC
  clear hE hz n0 hZ
  by_cases n3 : b.size - 2 < n
  · rw [if_pos n3] at hE'
    have hV : Hid (getV b.data.toList = .tuple #[.string ⟨#[]⟩, .int .i64 0, .int .i64 3]) := Lib.hid (by simp [getV, gtS, gtN, hE'])
    have e2 : (b.size : Int) - 2 < n := by omega
    clear hE' hn
    go_enter Tryd.func16, Tryd.ntmps16
    go_wp2_with fail
    refine (cO.out _).mono ?_; rintro e w1 ⟨rfl, hb1⟩
    go_wp2_with fail
    refine (cN.out _).mono ?_; rintro e w2 ⟨rfl, hb2⟩
    have B2 : Below w.heap.size w w2 := hb1.trans (hb2.mono hb1.size)
    have z2 := B2.size
    go_wp2_with fail
    refine (cC.out _).mono ?_; rintro e w3 ⟨rfl, hb3⟩
    obtain ⟨hk3, hf3, hz3⟩ := bcellAt (b := w2.heap.size) (by simp) hb3
    have B3 : Below w.heap.size w w3 := by (repeat (first | (with_reducible exact Below.refl _ _) | ((with_reducible refine below_alloc ?_ ?_ _); · (first | omega | (simp; done) | (simp; omega))) | ((with_reducible refine below_setCell ?_ ?_ _); · (first | omega | (simp; done) | (simp; omega))) | (with_reducible refine Below.drew ?_) | (with_reducible refine below_drewN ?_ _) | ((with_reducible refine below_call (by assumption) ?_ ?_); · (first | omega | (simp; done) | (simp; omega)))))
    have z3 := B3.size
    go_wp2_with fail
    refine (cL.out _).mono ?_; rintro e w4 ⟨rfl, hb4⟩
    have B4 : Below w.heap.size w w4 := by (repeat (first | (with_reducible exact Below.refl _ _) | ((with_reducible refine below_alloc ?_ ?_ _); · (first | omega | (simp; done) | (simp; omega))) | ((with_reducible refine below_setCell ?_ ?_ _); · (first | omega | (simp; done) | (simp; omega))) | (with_reducible refine Below.drew ?_) | (with_reducible refine below_drewN ?_ _) | ((with_reducible refine below_call (by assumption) ?_ ?_); · (first | omega | (simp; done) | (simp; omega)))))
    go_wp2
    refine bodyPost_ret (v := .tuple #[.string ⟨#[]⟩, .int .i64 0, .int .i64 3]) (by simp [results, Tryd.results16, go_sem]) rfl ?_
    exact ⟨by rw [hV.out], by (repeat (first | (with_reducible exact Below.refl _ _) | ((with_reducible refine below_alloc ?_ ?_ _); · (first | omega | (simp; done) | (simp; omega))) | ((with_reducible refine below_setCell ?_ ?_ _); · (first | omega | (simp; done) | (simp; omega))) | (with_reducible refine Below.drew ?_) | (with_reducible refine below_drewN ?_ _) | ((with_reducible refine below_call (by assumption) ?_ ?_); · (first | omega | (simp; done) | (simp; omega)))))⟩
  rw [if_neg n3] at hE'
  have hS := gtS_ext hE'
  have hN : gtN b.data.toList = 2 + lenG b.data.toList := if_pos hE'
  rw [hn] at hS hN
  have hV : Hid (getV b.data.toList = .tuple #[.string (b.extract 2 (2 + n)), .int .i64 (2 + (n : Int)), .int .i64 0]) := Lib.hid (by simp only [getV, hS, hN, hE']; rw [show ((2 + n : Nat) : Int) = 2 + (n : Int) by omega])
  have cK := Lib.hid (fun W => clone_any (b.extract 2 (2 + n)) W (by simp; omega))
  have e2 : ¬ (b.size : Int) - 2 < n := by omega
  have w6 : IntKind.i64.wrap (2 + (n : Int)) = 2 + n := IntWalk.i64_in _ (by omega)
  have e3 : (2 : Int) + n ≤ b.size := by omega
  have e4 : (0 : Int) ≤ 2 + n := by omega
  have e5 : (2 : Int) ≤ 2 + n := by omega
  have e6 : ((2 : Int) + (n : Int)).toNat = 2 + n := by omega
  clear hE' hS hN n3 n2 n1 hn
  go_enter Tryd.func16, Tryd.ntmps16
  go_wp2_with fail
  refine (cO.out _).mono ?_; rintro e w1 ⟨rfl, hb1⟩
  go_wp2_with fail
  refine (cN.out _).mono ?_; rintro e w2 ⟨rfl, hb2⟩
  have B2 : Below w.heap.size w w2 := hb1.trans (hb2.mono hb1.size)
  have z2 := B2.size
  go_wp2_with fail
  refine (cC.out _).mono ?_; rintro e w3 ⟨rfl, hb3⟩
  obtain ⟨hk3, hf3, hz3⟩ := bcellAt (b := w2.heap.size) (by simp) hb3
  have B3 : Below w.heap.size w w3 := by (repeat (first | (with_reducible exact Below.refl _ _) | ((with_reducible refine below_alloc ?_ ?_ _); · (first | omega | (simp; done) | (simp; omega))) | ((with_reducible refine below_setCell ?_ ?_ _); · (first | omega | (simp; done) | (simp; omega))) | (with_reducible refine Below.drew ?_) | (with_reducible refine below_drewN ?_ _) | ((with_reducible refine below_call (by assumption) ?_ ?_); · (first | omega | (simp; done) | (simp; omega)))))
  have z3 := B3.size
  go_wp2_with fail
  refine (cL.out _).mono ?_; rintro e w4 ⟨rfl, hb4⟩
  obtain ⟨hk4, hf4, hz4⟩ := bcellAt (b := w2.heap.size) hz3 hb4
  have B4 : Below w.heap.size w w4 := by (repeat (first | (with_reducible exact Below.refl _ _) | ((with_reducible refine below_alloc ?_ ?_ _); · (first | omega | (simp; done) | (simp; omega))) | ((with_reducible refine below_setCell ?_ ?_ _); · (first | omega | (simp; done) | (simp; omega))) | (with_reducible refine Below.drew ?_) | (with_reducible refine below_drewN ?_ _) | ((with_reducible refine below_call (by assumption) ?_ ?_); · (first | omega | (simp; done) | (simp; omega)))))
  have z4 := B4.size
  go_wp2_with fail
  refine (cK.out _).mono ?_; rintro e w5 ⟨rfl, hb5⟩
  have B5 : Below w.heap.size w w5 := by (repeat (first | (with_reducible exact Below.refl _ _) | ((with_reducible refine below_alloc ?_ ?_ _); · (first | omega | (simp; done) | (simp; omega))) | ((with_reducible refine below_setCell ?_ ?_ _); · (first | omega | (simp; done) | (simp; omega))) | (with_reducible refine Below.drew ?_) | (with_reducible refine below_drewN ?_ _) | ((with_reducible refine below_call (by assumption) ?_ ?_); · (first | omega | (simp; done) | (simp; omega)))))
  go_wp2
  refine bodyPost_ret (v := .tuple #[.string (b.extract 2 (2 + n)), .int .i64 (2 + (n : Int)), .int .i64 0]) (by simp [results, Tryd.results16, go_sem]) rfl ?_
  exact ⟨by rw [hV.out], by (repeat (first | (with_reducible exact Below.refl _ _) | ((with_reducible refine below_alloc ?_ ?_ _); · (first | omega | (simp; done) | (simp; omega))) | ((with_reducible refine below_setCell ?_ ?_ _); · (first | omega | (simp; done) | (simp; omega))) | (with_reducible refine Below.drew ?_) | (with_reducible refine below_drewN ?_ _) | ((with_reducible refine below_call (by assumption) ?_ ?_); · (first | omega | (simp; done) | (simp; omega)))))⟩
theorem fget_any (b : ByteArray) (w : World) (hs : b.size ≤ 1000000) :
    Calls Tryd.prog 16 #[.string b] w fun e w' => e = .returned (getV b.data.toList) ∧ Below w.heap.size w w' := fget_big b w (by omega)
end Go.Proofs.YtackinamkibmlaaDoor
