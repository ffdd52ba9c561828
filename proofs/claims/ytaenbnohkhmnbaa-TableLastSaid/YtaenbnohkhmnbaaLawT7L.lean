/- TableLast: what was put last is what is got, whatever other keys come and go; of what was taken out nothing is got: the statement holds for every input. No condition. -/
import Derived.Test.YtaenbnohkhmnbaaLawKit
import Derived.Test.YtaenbnohkhmnbaaLawOpen7
import Derived.Test.YtaenbnohkhmnbaaT7Y
namespace Go.Proofs.Ytaenbnohkhmnbaa
open Go.RowKit Go.ChangeShapes Go.WideShapes Go.ChangeAt
set_option linter.unusedVariables false
set_option linter.unusedSimpArgs false

/-- a good table of 256 lies there, in which the key has the value -/
def Keeps7 (w : World) (g h : Nat) (key : ByteArray) (v : Int) : Prop := ∃ c K, LieT w g h 256 K c ∧ Good 256 c K ∧ Has 256 c key v
theorem Keeps7.call {w w' : World} {g h : Nat} {key : ByteArray} {v : Int} (H : Keeps7 w g h key v) (hb : Below w.heap.size w w') : Keeps7 w' g h key v := by
  obtain ⟨c, K, h1, h2, h3⟩ := H
  exact ⟨c, K, h1.call hb, h2, h3⟩
theorem Keeps7.get {w : World} {g h : Nat} {key : ByteArray} {v : Int} (H : Keeps7 w g h key v) (hk : key.size ≤ maxLen) :
    Calls Try.prog 18 #[ptrV g, .string key] w fun e w' => e = .returned (.tuple #[.int .i64 v, .bool true]) ∧ Below w.heap.size w w' := by
  obtain ⟨c, K, h1, h2, h3⟩ := H
  exact get_has g h 256 K c key v w h1 h2 hk h3
theorem Keeps7.put {w : World} {g h : Nat} {key : ByteArray} {v : Int} (H : Keeps7 w g h key v) (x : Int) (hk : key.size ≤ 64) :
    Calls Try.prog 17 #[ptrV g, .string key, .int .i64 x] w fun e w' => e = .returned (.int .i64 0) ∧ Keeps7 w' g h key x ∧ But2 w w' g h := by
  obtain ⟨c, K, h1, h2, h3⟩ := H
  refine (put_is g h 256 K c key x w h1 h2 hk (.inl ⟨_, h3⟩)).mono ?_
  rintro e w' ⟨rfl, c', K', h4, h5, h6, h7, -⟩
  exact ⟨rfl, ⟨c', K', h4, h5, h7⟩, h6⟩
/-- a good table of 256 lies there, in which the key has nothing -/
def Lacks7 (w : World) (g h : Nat) (key : ByteArray) : Prop := ∃ c K, LieT w g h 256 K c ∧ Good 256 c K ∧ ∀ v, ¬ Has 256 c key v
theorem Lacks7.call {w w' : World} {g h : Nat} {key : ByteArray} (H : Lacks7 w g h key) (hb : Below w.heap.size w w') : Lacks7 w' g h key := by
  obtain ⟨c, K, h1, h2, h3⟩ := H
  exact ⟨c, K, h1.call hb, h2, h3⟩
theorem Keeps7.del {w : World} {g h : Nat} {key : ByteArray} {v : Int} (H : Keeps7 w g h key v) (hk : key.size ≤ maxLen) :
    Calls Try.prog 19 #[ptrV g, .string key] w fun e w' => e = .returned (.bool true) ∧ Lacks7 w' g h key ∧ But2 w w' g h := by
  obtain ⟨c, K, h1, h2, h3⟩ := H
  refine (del_has g h 256 K c key v w h1 h2 hk h3).mono ?_
  rintro e w' ⟨rfl, c', K', h4, h5, h6, h7⟩
  exact ⟨rfl, ⟨c', K', h4, h5, h7⟩, h6⟩
theorem Lacks7.get {w : World} {g h : Nat} {key : ByteArray} (H : Lacks7 w g h key) (hk : key.size ≤ maxLen) :
    Calls Try.prog 18 #[ptrV g, .string key] w fun e w' => e = .returned (.tuple #[.int .i64 0, .bool false]) ∧ Below w.heap.size w w' := by
  obtain ⟨c, K, h1, h2, h3⟩ := H
  exact get_hasnt g h 256 K c key w h1 h2 hk h3
theorem Lacks7.where {w : World} {g h : Nat} {key : ByteArray} (H : Lacks7 w g h key) (hk : key.size ≤ maxLen) :
    Calls Try.prog 11 #[ptrV g, .string key] w fun e w' => e = .returned (.int .i64 (-1)) ∧ Below w.heap.size w w' := by
  obtain ⟨c, K, h1, h2, h3⟩ := H
  exact where_hasnt g h 256 K c key w h1 h2 hk h3
theorem Keeps7.do {w : World} {g h : Nat} {key : ByteArray} {v : Int} (H : Keeps7 w g h key v) (k : Int) (s : ByteArray) (n : Int) (hk : 0 ≤ k ∧ k ≤ 255) (hs : s.size ≤ maxLen) (hne : key ≠ s) (h5 : Int.tmod k 6 ≠ 5) :
    Calls Try.prog 7 #[ptrV g, actV k s n] w fun e w' => ∃ x y, e = .returned (.tuple #[.int .i64 x, .int .i64 y]) ∧ Keeps7 w' g h key v ∧ But2 w w' g h := by
  obtain ⟨c, K, h1, h2, h3⟩ := H
  refine (do_any g h 256 K c k s n w h1 h2 hk hs).mono ?_
  rintro e w' ⟨x, y, rfl, c', K', h4, h6, h7, h8, -⟩
  exact ⟨x, y, rfl, ⟨c', K', h4, h6, (h8 h5 key v hne).2 h3⟩, h7⟩

set_option maxRecDepth 100000 in
set_option maxHeartbeats 16000000 in
theorem tlast_walk (key : ByteArray) (n0 n1 : Int) (v : Value) (l : List Cal) (w : World) (hks : key.size ≤ maxLen) (hv : IsAc w v l) (hll : l.length ≤ maxLen) (hby : ∀ d ∈ l, BytC d) :
    Calls Try.prog 5 #[.string key, .agg #[.int .i64 n0, .int .i64 n1], v] w fun e w' => e = .returned (.bool true) ∧ Below w.heap.size w w' := by
  have cf := fun W (hb : Below w.heap.size w W) => few_any v l 60 W (hv.call hb) hll
  obtain ⟨p, cap, rfl, hrd⟩ := hv
  have H := Lib.hid hrd
  have HY := Lib.hid hby
  have HKS := Lib.hid hks
  clear hrd hby hll hks
  go_enter Try.func5, Try.ntmps5
  go_wp2
  go_quiet (fail)
  go_wp2_with fail
  refine (cf _ (by (repeat (first | (with_reducible exact Below.refl _ _) | ((with_reducible refine below_alloc ?_ ?_ _); · (first | omega | (simp; done) | (simp; omega))) | ((with_reducible refine below_setCell ?_ ?_ _); · (first | omega | (simp; done) | (simp; omega))) | (with_reducible refine Below.drew ?_) | (with_reducible refine below_drewN ?_ _) | ((with_reducible refine below_call (by assumption) ?_ ?_); · (first | omega | (simp; done) | (simp; omega))))))).mono ?_; rintro e w0 ⟨fb, rfl, hw0, hfb⟩
  replace hw0 := hw0.symm
  subst hw0
  clear cf
  cases fb with
  | false =>
    clear hfb
    go_wp2_with fail
    refine (awake_any _).mono ?_; rintro e w1 ⟨rfl, hb1⟩
    go_wp2
    go_ret
    exact ⟨rfl, by (repeat (first | (with_reducible exact Below.refl _ _) | ((with_reducible refine below_alloc ?_ ?_ _); · (first | omega | (simp; done) | (simp; omega))) | ((with_reducible refine below_setCell ?_ ?_ _); · (first | omega | (simp; done) | (simp; omega))) | (with_reducible refine Below.drew ?_) | (with_reducible refine below_drewN ?_ _) | ((with_reducible refine below_call (by assumption) ?_ ?_); · (first | omega | (simp; done) | (simp; omega)))))⟩
  | true =>
  have hl : (l.length : Int) ≤ 60 := (hfb rfl).1
  clear hfb
  by_cases hk64 : 64 < key.size
  · have hk64' : (64 : Int) < key.size := by omega
    clear hk64
    go_wp2_with fail
    refine (awake_any _).mono ?_; rintro e w1 ⟨rfl, hb1⟩
    go_wp2
    go_ret
    exact ⟨rfl, by (repeat (first | (with_reducible exact Below.refl _ _) | ((with_reducible refine below_alloc ?_ ?_ _); · (first | omega | (simp; done) | (simp; omega))) | ((with_reducible refine below_setCell ?_ ?_ _); · (first | omega | (simp; done) | (simp; omega))) | (with_reducible refine Below.drew ?_) | (with_reducible refine below_drewN ?_ _) | ((with_reducible refine below_call (by assumption) ?_ ?_); · (first | omega | (simp; done) | (simp; omega)))))⟩
  have hk64' : (key.size : Int) ≤ 64 := by omega
  have HK := Lib.hid (show key.size ≤ 64 by omega)
  clear hk64
  go_wp2_with fail
  refine (new_yes 256 _ (by decide) (by decide)).mono ?_; rintro e w1 ⟨g, h, rfl, H1, hg, hh, hb1⟩
  have HG := Lib.hid (show w.heap.size ≤ g ∧ w.heap.size ≤ h by (try simp only [World.drewN_heap, World.size_alloc] at hg hh); constructor <;> first | omega | (simp at hg hh; omega))
  have HL1 := Lib.hid (show Below w.heap.size w w1 by have hz := hb1.size; (repeat (first | (with_reducible exact Below.refl _ _) | ((with_reducible refine below_alloc ?_ ?_ _); · (first | omega | (simp; done) | (simp; omega))) | ((with_reducible refine below_setCell ?_ ?_ _); · (first | omega | (simp; done) | (simp; omega))) | (with_reducible refine Below.drew ?_) | (with_reducible refine below_drewN ?_ _) | ((with_reducible refine below_call (by assumption) ?_ ?_); · (first | omega | (simp; done) | (simp; omega))))))
  clear hb1 hg hh
  have c1 := put_is g h 256 0 noSl key n0 w1 H1 (good_new 256 (by decide)) HK.out (.inr (by decide))
  clear H1
  go_wp2_with fail
  refine c1.mono ?_; rintro e w2 ⟨rfl, ca, Ka, h4, h5, hB2, h7, -⟩
  have HT2 := Lib.hid (show Keeps7 w2 g h key n0 from ⟨ca, Ka, h4, h5, h7⟩)
  have HL2 := Lib.hid (HL1.out.trans (hB2.to HG.out.1 HG.out.2 HL1.out.size))
  clear c1 h4 h5 h7 hB2
  go_wp2
  go_loopw [12] (fun i wr => ∃ k : Nat, i = .int .i64 k ∧ k ≤ l.length ∧ Hid (Keeps7 wr g h key n0) ∧ Hid (Below w.heap.size w wr)) (fun i _ => l.length - (intOf i).toNat)
  case atStart => exact ⟨0, rfl, Nat.zero_le _, HT2, HL2⟩
  case round =>
    clear HT2 HL2
    obtain ⟨k, rfl, hk, HT, HL⟩ := hrel
    by_cases hlt : k < l.length
    · have hlt' : (k : Int) < l.length := by omega
      obtain ⟨b, off, rfl, d0, d1, d2⟩ := H.out k hlt
      have hyk := HY.out l[k] (List.getElem_mem hlt)
      obtain ⟨kd, hkd⟩ : ∃ x, l[k].1 = x := ⟨_, rfl⟩
      obtain ⟨s, hs⟩ : ∃ x, l[k].2.1 = x := ⟨_, rfl⟩
      obtain ⟨x, hx⟩ : ∃ x, l[k].2.2 = x := ⟨_, rfl⟩
      unfold BytC at hyk
      rw [hkd, hs] at hyk
      rw [hkd] at d0
      rw [hs] at d1
      rw [hx] at d2
      have e0 := (HL.out.cell (p := ⟨b, off + k * 3, none⟩) (World.block_lt_of_cell? _ _ d0)).trans d0
      have e1 := (HL.out.cell (p := ⟨b, off + k * 3 + 1, none⟩) (World.block_lt_of_cell? _ _ d1)).trans d1
      have e2 := (HL.out.cell (p := ⟨b, off + k * 3 + 2, none⟩) (World.block_lt_of_cell? _ _ d2)).trans d2
      have HYK := Lib.hid hyk
      clear d0 d1 d2 hkd hs hx hyk
      by_cases hse : s = key
      · have hse' : (s.toList == key.toList) = true := by rw [str_beq]; simpa using hse
        clear hse
        go_wp2
        go_roundw
        case rel => exact ⟨k + 1, by first | rfl | go_num, by omega, HT, HL⟩
        case measure => simp [intOf]; omega
      · have hse' : (s.toList == key.toList) = false := by rw [str_beq]; simpa using hse
        have HSE := Lib.hid hse
        clear hse
        by_cases h5 : Int.tmod kd 6 = 5
        · have h5' : kd % 6 = 5 := by rw [← h5, Int.tmod_eq_emod_of_nonneg HYK.out.1.1]
          go_wp2
          go_roundw
          case rel => exact ⟨k + 1, by first | rfl | go_num, by omega, HT, HL⟩
          case measure => simp [intOf]; omega
        · have h5' : (Int.tmod kd 6 == 5) = false := by simpa using h5
          have cd := HT.out.do kd s x HYK.out.1 HYK.out.2 (Ne.symm HSE.out) h5
          clear h5
          go_wp2_with fail
          refine cd.mono ?_; rintro e w3 ⟨x1, y1, rfl, hT3, hB3⟩
          have HT3 := Lib.hid hT3
          have HL3 := Lib.hid (HL.out.trans (hB3.to HG.out.1 HG.out.2 HL.out.size))
          clear cd hT3 hB3
          go_wp2
          go_roundw
          case rel => exact ⟨k + 1, by first | rfl | go_num, by omega, HT3, HL3⟩
          case measure => simp [intOf]; omega
    · obtain rfl : k = l.length := by omega
      have q1 := HT.out.get HKS.out
      go_wp2_with fail
      refine q1.mono ?_; rintro e w3 ⟨rfl, hb3⟩
      have q2 := (HT.out.call hb3).put n1 HK.out
      have HL3 := Lib.hid (below_call hb3 HL.out.size HL.out)
      clear q1 hb3
      go_wp2_with fail
      refine q2.mono ?_; rintro e w4 ⟨rfl, hT4, hB4⟩
      have HT4 := Lib.hid hT4
      have HL4 := Lib.hid (HL3.out.trans (hB4.to HG.out.1 HG.out.2 HL3.out.size))
      have q3 := hT4.get HKS.out
      clear q2 hT4 hB4
      go_wp2_with fail
      refine q3.mono ?_; rintro e w5 ⟨rfl, hb5⟩
      have q4 := (HT4.out.call hb5).del HKS.out
      have HL5 := Lib.hid (below_call hb5 HL4.out.size HL4.out)
      clear q3 hb5
      go_wp2_with fail
      refine q4.mono ?_; rintro e w6 ⟨rfl, hT6, hB6⟩
      have HT6 := Lib.hid hT6
      have HL6 := Lib.hid (HL5.out.trans (hB6.to HG.out.1 HG.out.2 HL5.out.size))
      have q5 := hT6.get HKS.out
      clear q4 hT6 hB6
      go_wp2_with fail
      refine q5.mono ?_; rintro e w7 ⟨rfl, hb7⟩
      have q6 := (HT6.out.call hb7).where HKS.out
      have HL7 := Lib.hid (below_call hb7 HL6.out.size HL6.out)
      clear q5 hb7
      go_wp2_with fail
      refine q6.mono ?_; rintro e w8 ⟨rfl, hb8⟩
      have HL8 := Lib.hid (below_call hb8 HL7.out.size HL7.out)
      clear q6 hb8
      go_wp2_with fail
      refine (awake_any _).mono ?_; rintro e w9 ⟨rfl, hb9⟩
      go_wp2
      go_ret
      exact ⟨rfl, below_call hb9 HL8.out.size HL8.out⟩

set_option maxRecDepth 100000 in
theorem tlast_lifted (os : Os) (started : os.Started) (H : Type) (enc : TypeId × Value → H) :
    ReturnsInHanded {} Try.checked os 5 .any (Rows.tableLastSpec.pre6 enc Try.prog Try.f5 Rows.tableLastRow.domain false) (Rows.tableLastSpec.post enc Try.prog Try.f5 false true false false) := by
  refine returnsInHanded_of_change (C := Try.checked) own started (by kernel_rfl) Try.func5
    (ChangeSpec.witness6 (enc := enc) (C := Try.checked) false ⟨#[], #[.string ⟨#[]⟩, .agg #[.int .i64 0, .int .i64 0], .slice none 0 0], []⟩ 8 (by kernel_rfl) (by kernel_rfl) (by kernel_rfl) (by kernel_rfl)) ?_
  intro W base args ds gs before hval0 hW hcnd _
  have hval : ∀ (j : Nat) t v, Try.f5.params[j]? = some t → args[j]? = some v → Value.okWide Try.prog W .any base t v := hval0
  have hW' := hW
  obtain ⟨p, q, hA0, hV, rfl, hfz, hnd⟩ := hW
  have hA : DataW.TrodAll enc Try.prog W 0 (fun _ => true) true Try.f5.params.toList args.toList ds p := hA0
  rw [Try.params5] at hA hval
  obtain ⟨v0, vs0, d0, ds0, p0, q0, hargs, rfl, rfl, h0, r0⟩ := trodAll_cons hA
  obtain ⟨v1, vs1, d1, ds1, p1, q1, rfl, rfl, rfl, h1, r1⟩ := trodAll_cons r0
  obtain ⟨v2, vs2, d2, ds2, p2, q2, rfl, rfl, rfl, h2, r2⟩ := trodAll_cons r1
  obtain ⟨rfl, rfl, rfl⟩ := trodAll_nil r2
  obtain rfl : args = #[v0, v1, v2] := by cases args; simp_all
  obtain ⟨rfl, rfl⟩ := trodVars_none hV
  obtain ⟨key, rfl, rfl, rfl, hks⟩ := Go.ChangeMaps.open_string Try.underlying9 (hval 0 9 v0 rfl rfl) h0
  obtain ⟨a, b, rfl⟩ := open_pair (hval 1 44 v1 rfl rfl) h1
  obtain ⟨l, hl, hll, hby⟩ := open_cals (hval 2 37 v2 rfl rfl) h2
  refine (tlast_walk key a b v2 l W hks hl hll hby).mono fun e W' ⟨he, hb⟩ => ?_
  subst he
  exact ⟨_, rfl, law_post rfl rfl Try.underlying4 (by kernel_rfl) rfl hW' hb⟩
theorem tlast_holds : Rows.TableLastSaid :=
  OpenClaim.holds_of_wide 5 Try.f5 rfl rfl rfl rfl rfl rfl rfl ⟨rfl, rfl, rfl, rfl, rfl⟩ rfl rfl rfl rfl rfl (by kernel_rfl) Try.func5 (by kernel_rfl)
    (of_decide_eq_true (by kernel_rfl)) (by unfold Func.isWrapper; first | (rw [if_pos (by decide +kernel)]; kernel_rfl) | (rw [if_neg (by decide +kernel)]; exact ⟨rfl, rfl⟩))
    (fun os started H enc _ => tlast_lifted os started H enc)
end Go.Proofs.Ytaenbnohkhmnbaa
