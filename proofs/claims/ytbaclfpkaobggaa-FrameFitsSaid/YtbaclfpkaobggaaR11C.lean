/- Layer 11, the document's: texts that are joined; how many fit. -/
import Derived.Test.YtbaclfpkaobggaaR11B
namespace Go.Proofs.Ytbaclfpkaobggaa
open Go.RowKit
set_option linter.unusedVariables false
set_option linter.unusedSimpArgs false

/-- the frames of the first k texts -/
def jnK (l : List ByteArray) (k : Nat) : ByteArray := ⟨((l.take k).flatMap frmB).toArray⟩
theorem jnK_next {l : List ByteArray} {k : Nat} (hk : k < l.length) (ho : okF l[k]) : jnK l (k + 1) = jnK l k ++ fpT l[k] := by
  unfold jnK
  rw [fpT_ok ho]
  apply ByteArray.ext
  apply Array.toList_inj.1
  have e : ((⟨((l.take k).flatMap frmB).toArray⟩ : ByteArray) ++ ⟨(frmB l[k]).toArray⟩).data.toList = (l.take k).flatMap frmB ++ frmB l[k] := by simp
  rw [e]
  show (l.take (k + 1)).flatMap frmB = _
  rw [List.take_succ_eq_append_getElem hk, List.flatMap_append, List.flatMap_cons, List.flatMap_nil, List.append_nil]
theorem jnK_size {l : List ByteArray} : ∀ k, (∀ j (h : j < l.length), j < k → okF l[j]) → (jnK l k).size ≤ 130 * k
  | 0, _ => by simp [jnK, ByteArray.size]
  | k + 1, h => by
    have ih := jnK_size k (fun j hj hlt => h j hj (by omega))
    by_cases hk : k < l.length
    · rw [jnK_next hk (h k hk (by omega)), ByteArray.size_append]
      have := fsz_le l[k]
      unfold fsz at this
      omega
    · have e : jnK l (k + 1) = jnK l k := by
        unfold jnK
        rw [List.take_of_length_le (by omega), List.take_of_length_le (by omega)]
      rw [e]
      omega
theorem jn_first {l : List ByteArray} {k : Nat} (hk : k < l.length) (hok : ∀ j (h : j < l.length), j < k → okF l[j]) (hb : ¬ fpE l[k] = 0) : jnE l = fpE l[k] := by
  induction l generalizing k with
  | nil => cases hk
  | cons s l ih =>
    unfold jnE
    cases k with
    | zero => exact if_neg hb
    | succ k =>
      have h0 : okF s := hok 0 (by simp) (by omega)
      rw [if_pos (fpE_ok.2 h0)]
      exact ih (by simpa using hk) (fun j hj hlt => hok (j + 1) (by simpa using hj) (by omega)) hb
theorem jn_whole {l : List ByteArray} (hok : ∀ j (h : j < l.length), okF l[j]) : jnE l = 0 ∧ jnT l = jnK l l.length := by
  have he : jnE l = 0 := jn_ok.2 (fun s hs => by
    obtain ⟨j, hj, rfl⟩ := List.mem_iff_getElem.1 hs
    exact hok j hj)
  refine ⟨he, ?_⟩
  unfold jnT jnK
  rw [if_pos he, List.take_length]
set_option maxRecDepth 100000 in
set_option maxHeartbeats 4000000 in
theorem rfjoin_any (v : Value) (l : List ByteArray) (w : World) (hv : IsS w v l) (hl : l.length ≤ 1000000) (hs : ∀ s ∈ l, s.size ≤ 1000000) :
    Calls Try.prog 20 #[v] w fun e w' => e = .returned (.tuple #[.string (jnT l), .int .i64 (jnE l)]) ∧ Below w.heap.size w w' := by
  obtain ⟨p, cap, rfl, hp⟩ := hv
  have HP := Lib.hid hp
  have HS := Lib.hid hs
  clear hp hs
  go_enter Try.func20, Try.ntmps20
  go_wp2
  go_loopw [4, 5] (fun o i wr => ∃ k : Nat, i = .int .i64 k ∧ k ≤ l.length ∧ o = .string (jnK l k) ∧ (∀ j (h : j < l.length), j < k → okF l[j]) ∧ Below w.heap.size w wr) (fun _ i _ => l.length - (intOf i).toNat)
  case atStart => exact ⟨0, rfl, Nat.zero_le _, rfl, fun j hj h => by omega, Below.refl _ _⟩
  case round =>
    obtain ⟨k, rfl, hk, rfl, hok, hB⟩ := hrel
    have HO := Lib.hid hok
    have hz := hB.size
    clear hok
    by_cases hlt : k < l.length
    · have hlt' : (k : Int) < l.length := by omega
      obtain ⟨b, off, rfl, hc⟩ := HP.out k hlt
      have hc' := (hB.cell (p := ⟨b, off + k, none⟩) (World.block_lt_of_cell? _ _ hc)).trans hc
      have c := Lib.hid (fun W => rfput_any l[k] W (HS.out _ (List.getElem_mem hlt)))
      by_cases hE : fpE l[k] = 0
      · have hn := jnK_next hlt (fpE_ok.1 hE)
        have hsz := jnK_size (l := l) k HO.out
        have hfz := fsz_le l[k]
        unfold fsz at hfz
        have HN := Lib.hid hn
        have HG := Lib.hid (show ∀ j (h : j < l.length), j < k + 1 → okF l[j] from fun j hj h => by
          by_cases e : j = k
          · subst e; exact fpE_ok.1 hE
          · exact HO.out j hj (by omega))
        rw [hE] at c
        generalize fpT l[k] = f at c HN hfz
        generalize jnK l k = o at HN hsz ⊢
        generalize l[k] = s at c hc'
        clear hE hn hc
        go_wp2_with fail
        refine (c.out _).mono ?_; rintro e w1 ⟨rfl, hb1⟩
        have B1 : Below w.heap.size w w1 := by (repeat (first | (with_reducible exact Below.refl _ _) | ((with_reducible refine below_alloc ?_ ?_ _); · (first | omega | (simp; done) | (simp; omega))) | ((with_reducible refine below_setCell ?_ ?_ _); · (first | omega | (simp; done) | (simp; omega))) | (with_reducible refine Below.drew ?_) | (with_reducible refine below_drewN ?_ _) | ((with_reducible refine below_call (by assumption) ?_ ?_); · (first | omega | (simp; done) | (simp; omega)))))
        go_wp2
        go_roundw
        case rel => exact ⟨k + 1, by go_num, by omega, by rw [HN.out], HG.out, B1⟩
        case measure => simp [intOf]; omega
      · have H1 := Lib.hid (jn_first hlt HO.out hE)
        have H2 : Hid (jnT l = ⟨#[]⟩) := Lib.hid (by unfold jnT; rw [H1.out, if_neg hE])
        have e0 : (fpE l[k] != 0) = true := by simp [hE]
        generalize fpT l[k] = f at c
        generalize fpE l[k] = E at c e0 H1
        generalize l[k] = s at c hc'
        clear hE hc
        go_wp2_with fail
        refine (c.out _).mono ?_; rintro e w1 ⟨rfl, hb1⟩
        have B1 : Below w.heap.size w w1 := by (repeat (first | (with_reducible exact Below.refl _ _) | ((with_reducible refine below_alloc ?_ ?_ _); · (first | omega | (simp; done) | (simp; omega))) | ((with_reducible refine below_setCell ?_ ?_ _); · (first | omega | (simp; done) | (simp; omega))) | (with_reducible refine Below.drew ?_) | (with_reducible refine below_drewN ?_ _) | ((with_reducible refine below_call (by assumption) ?_ ?_); · (first | omega | (simp; done) | (simp; omega)))))
        go_wp2
        go_ret2
        exact ⟨by rw [H1.out, H2.out]; rfl, B1⟩
    · obtain rfl : k = l.length := by omega
      obtain ⟨h1, h2⟩ := jn_whole (fun j hj => HO.out j hj hj)
      have H1 := Lib.hid h1
      have H2 := Lib.hid h2
      clear h1 h2
      generalize jnK l l.length = o at H2 ⊢
      go_wp2
      go_ret2
      exact ⟨by rw [H1.out, H2.out]; rfl, hB⟩
theorem fit_go {l : List ByteArray} {k : Nat} {m m' : Int} (hk : k < l.length) (h : fitN l m = k + fitN (l.drop k) m') (h1 : 0 < fsz l[k] ∧ (fsz l[k] : Int) ≤ m') : fitN l m = (k + 1) + fitN (l.drop (k + 1)) (m' - fsz l[k]) := by
  rw [h, List.drop_eq_getElem_cons hk]
  have : fitN (l[k] :: l.drop (k + 1)) m' = fitN (l.drop (k + 1)) (m' - fsz l[k]) + 1 := if_pos h1
  rw [this]
  omega
theorem fit_stop {l : List ByteArray} {k : Nat} {m m' : Int} (hk : k < l.length) (h : fitN l m = k + fitN (l.drop k) m') (h1 : ¬ (0 < fsz l[k] ∧ (fsz l[k] : Int) ≤ m')) : fitN l m = k := by
  rw [h, List.drop_eq_getElem_cons hk]
  have : fitN (l[k] :: l.drop (k + 1)) m' = 0 := if_neg h1
  rw [this]
  omega
theorem fit_fin {l : List ByteArray} {m m' : Int} (h : fitN l m = l.length + fitN (l.drop l.length) m') : fitN l m = l.length := by
  rw [h, List.drop_length]
  rfl
set_option maxRecDepth 100000 in
set_option maxHeartbeats 4000000 in
theorem rffit_any (v : Value) (l : List ByteArray) (m : Int) (w : World) (hv : IsS w v l) (hl : l.length ≤ 1000000) (hs : ∀ s ∈ l, s.size ≤ 1000000) (hm : -9223372036854775808 ≤ m) (hm' : m ≤ 9223372036854775807) :
    Calls Try.prog 22 #[v, .int .i64 m] w fun e w' => e = .returned (.int .i64 (fitN l m : Int)) ∧ Below w.heap.size w w' := by
  obtain ⟨p, cap, rfl, hp⟩ := hv
  have HP := Lib.hid hp
  have HS := Lib.hid hs
  clear hp hs
  go_enter Try.func22, Try.ntmps22
  go_wp2
  go_loopw [5, 1] (fun i o wr => ∃ (k : Nat) (m' : Int), i = .int .i64 k ∧ k ≤ l.length ∧ o = .int .i64 m' ∧ m' ≤ m ∧ (0 ≤ m' ∨ m' = m) ∧ fitN l m = k + fitN (l.drop k) m' ∧ Below w.heap.size w wr) (fun i _ _ => l.length - (intOf i).toNat)
  case atStart => exact ⟨0, m, rfl, Nat.zero_le _, rfl, Int.le_refl _, .inr rfl, by simp, Below.refl _ _⟩
  case round =>
    obtain ⟨k, m', rfl, hk, rfl, h1, h2, hf, hB⟩ := hrel
    have HF := Lib.hid hf
    have H2 := Lib.hid h2
    have hz := hB.size
    clear hf h2
    by_cases hlt : k < l.length
    · have hlt' : (k : Int) < l.length := by omega
      obtain ⟨b, off, rfl, hc⟩ := HP.out k hlt
      have hc' := (hB.cell (p := ⟨b, off + k, none⟩) (World.block_lt_of_cell? _ _ hc)).trans hc
      have hlb := World.block_lt_of_cell? _ _ hc'
      have hle := fsz_le l[k]
      have c := Lib.hid (fun W => rfsize_any l[k] W (HS.out _ (List.getElem_mem hlt)))
      by_cases g : 0 < fsz l[k] ∧ (fsz l[k] : Int) ≤ m'
      · have HN := Lib.hid (fit_go hlt HF.out g)
        have g1 : (0 : Int) < fsz l[k] := by omega
        have g2 := g.2
        have hw : IntKind.i64.wrap (m' - (fsz l[k] : Int)) = m' - fsz l[k] := IntWalk.i64_in _ (by omega)
        generalize fsz l[k] = z at c HN g1 g2 hw hle g
        generalize l[k] = s at c hc'
        clear g hc
        go_wp2_with fail
        refine (c.out _).mono ?_; rintro e w1 ⟨rfl, hb1⟩
        have B1 : Below w.heap.size w w1 := by (repeat (first | (with_reducible exact Below.refl _ _) | ((with_reducible refine below_alloc ?_ ?_ _); · (first | omega | (simp; done) | (simp; omega))) | ((with_reducible refine below_setCell ?_ ?_ _); · (first | omega | (simp; done) | (simp; omega))) | (with_reducible refine Below.drew ?_) | (with_reducible refine below_drewN ?_ _) | ((with_reducible refine below_call (by assumption) ?_ ?_); · (first | omega | (simp; done) | (simp; omega)))))
        have z1 := B1.size
        have hc1 := (hb1.cell (p := ⟨b, off + k, none⟩) hlb).trans hc'
        go_wp2_with fail
        refine (c.out _).mono ?_; rintro e w2 ⟨rfl, hb2⟩
        have B2 : Below w.heap.size w w2 := by (repeat (first | (with_reducible exact Below.refl _ _) | ((with_reducible refine below_alloc ?_ ?_ _); · (first | omega | (simp; done) | (simp; omega))) | ((with_reducible refine below_setCell ?_ ?_ _); · (first | omega | (simp; done) | (simp; omega))) | (with_reducible refine Below.drew ?_) | (with_reducible refine below_drewN ?_ _) | ((with_reducible refine below_call (by assumption) ?_ ?_); · (first | omega | (simp; done) | (simp; omega)))))
        have z2 := B2.size
        have hc2 := (hb2.cell (p := ⟨b, off + k, none⟩) (Nat.lt_of_lt_of_le hlb hb1.size)).trans hc1
        go_wp2_with fail
        refine (c.out _).mono ?_; rintro e w3 ⟨rfl, hb3⟩
        have B3 : Below w.heap.size w w3 := by (repeat (first | (with_reducible exact Below.refl _ _) | ((with_reducible refine below_alloc ?_ ?_ _); · (first | omega | (simp; done) | (simp; omega))) | ((with_reducible refine below_setCell ?_ ?_ _); · (first | omega | (simp; done) | (simp; omega))) | (with_reducible refine Below.drew ?_) | (with_reducible refine below_drewN ?_ _) | ((with_reducible refine below_call (by assumption) ?_ ?_); · (first | omega | (simp; done) | (simp; omega)))))
        go_wp2
        go_roundw
        case rel => exact ⟨k + 1, m' - z, by go_num, by omega, by go_num, by omega, .inl (by omega), by simpa using HN.out, B3⟩
        case measure => simp [intOf]; omega
      · have HN := Lib.hid (fit_stop hlt HF.out g)
        by_cases g1 : 0 < fsz l[k]
        · have g1' : (0 : Int) < fsz l[k] := by omega
          have g2 : ¬ (fsz l[k] : Int) ≤ m' := fun h => g ⟨g1, h⟩
          generalize fsz l[k] = z at c g1' g2 hle
          generalize l[k] = s at c hc'
          clear g g1 hc
          go_wp2_with fail
          refine (c.out _).mono ?_; rintro e w1 ⟨rfl, hb1⟩
          have B1 : Below w.heap.size w w1 := by (repeat (first | (with_reducible exact Below.refl _ _) | ((with_reducible refine below_alloc ?_ ?_ _); · (first | omega | (simp; done) | (simp; omega))) | ((with_reducible refine below_setCell ?_ ?_ _); · (first | omega | (simp; done) | (simp; omega))) | (with_reducible refine Below.drew ?_) | (with_reducible refine below_drewN ?_ _) | ((with_reducible refine below_call (by assumption) ?_ ?_); · (first | omega | (simp; done) | (simp; omega)))))
          have z1 := B1.size
          have hc1 := (hb1.cell (p := ⟨b, off + k, none⟩) hlb).trans hc'
          go_wp2_with fail
          refine (c.out _).mono ?_; rintro e w2 ⟨rfl, hb2⟩
          have B2 : Below w.heap.size w w2 := by (repeat (first | (with_reducible exact Below.refl _ _) | ((with_reducible refine below_alloc ?_ ?_ _); · (first | omega | (simp; done) | (simp; omega))) | ((with_reducible refine below_setCell ?_ ?_ _); · (first | omega | (simp; done) | (simp; omega))) | (with_reducible refine Below.drew ?_) | (with_reducible refine below_drewN ?_ _) | ((with_reducible refine below_call (by assumption) ?_ ?_); · (first | omega | (simp; done) | (simp; omega)))))
          go_wp2
          go_ret
          exact ⟨ret_int (by rw [HN.out]), B2⟩
        · have g1' : ¬ (0 : Int) < fsz l[k] := by omega
          generalize fsz l[k] = z at c g1' hle
          generalize l[k] = s at c hc'
          clear g g1 hc
          go_wp2_with fail
          refine (c.out _).mono ?_; rintro e w1 ⟨rfl, hb1⟩
          have B1 : Below w.heap.size w w1 := by (repeat (first | (with_reducible exact Below.refl _ _) | ((with_reducible refine below_alloc ?_ ?_ _); · (first | omega | (simp; done) | (simp; omega))) | ((with_reducible refine below_setCell ?_ ?_ _); · (first | omega | (simp; done) | (simp; omega))) | (with_reducible refine Below.drew ?_) | (with_reducible refine below_drewN ?_ _) | ((with_reducible refine below_call (by assumption) ?_ ?_); · (first | omega | (simp; done) | (simp; omega)))))
          go_wp2
          go_ret
          exact ⟨ret_int (by rw [HN.out]), B1⟩
    · obtain rfl : k = l.length := by omega
      have HN := Lib.hid (fit_fin HF.out)
      go_wp2
      go_ret
      exact ⟨ret_int (by rw [HN.out]), hB⟩
end Go.Proofs.Ytbaclfpkaobggaa
