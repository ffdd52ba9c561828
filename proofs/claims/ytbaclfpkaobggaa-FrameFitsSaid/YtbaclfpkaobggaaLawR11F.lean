/- FrameFits: as many of some texts as fit fit, and not one more; with a byte less than they have one fewer does: the statement holds for every input. No condition. -/
import Derived.Test.YtbaclfpkaobggaaR11W
import Derived.Test.YtbaclfpkaobggaaLawKit
import Derived.Test.YtbaclfpkaobggaaLawOpenI
import Derived.Test.YtbaclfpkaobggaaKitI
namespace Go.Proofs.Ytbaclfpkaobggaa
open Go.RowKit Go.ChangeShapes Go.WideShapes Go.ChangeAt
set_option linter.unusedVariables false
set_option linter.unusedSimpArgs false

def zs : ByteArray := ⟨(List.replicate 128 0).toArray⟩
theorem zs_size : zs.size = 128 := by simp [zs, ByteArray.size]
theorem zs_gen (N : Nat) (W : World) : (convert 45 9 (.slice (some ⟨W.heap.size, 0, none⟩) N N)).run Try.prog (W.alloc (.cells (madeCells (Value.int .u8 0).cells N) 5)) = .ok (.string ⟨(List.replicate N (0 : UInt8)).toArray⟩) (W.alloc (.cells (madeCells (Value.int .u8 0).cells N) 5)) := by
  have h := conv_made W (List.replicate N 0) (List.replicate N 0) (by rw [List.map_replicate]; rfl)
  have e : ((List.replicate N (0 : Int)).map (Value.int .u8)).toArray = madeCells (Value.int .u8 0).cells N := by
    apply Array.toList_inj.1
    apply List.ext_getElem
    · simp [madeCells]
    · intro i h1 h2
      simp [madeCells, Value.cells, Nat.mod_one]
  rw [e, List.length_replicate] at h
  exact h
theorem zs_all : ∃ M : Array Value, (∀ W : World, (Instr.makeSlice 45 (.int .i64 128) (.int .i64 128)).run Try.prog W = .ok (.slice (some ⟨W.heap.size, 0, none⟩) 128 128) (W.alloc (.cells M 5))) ∧
    ∀ W : World, (convert 45 9 (.slice (some ⟨W.heap.size, 0, none⟩) 128 128)).run Try.prog (W.alloc (.cells M 5)) = .ok (.string zs) (W.alloc (.cells M 5)) := by
  obtain ⟨i0, hi, hz0, hz1, hz2⟩ := info_parts info_u8
  refine ⟨madeCells (Value.int .u8 0).cells 128, fun W => ?_, fun W => zs_gen 128 W⟩
  have h := run_make (P := Try.prog) W 45 5 i0 (.int .u8 0) Try.underlying45 hi hz0 .i64 .i64 128 128 (by omega) (by omega) (by rw [hz2]; omega) (by omega)
  rw [hz1] at h
  exact h
/-- the text of a number -/
def txF (n : Int) : ByteArray := zs.extract 0 (1 + n % 128).toNat
theorem txF_ok (n : Int) : okF (txF n) := by
  have h1 : 0 ≤ n % 128 := Int.emod_nonneg _ (by decide)
  have h2 : n % 128 < 128 := Int.emod_lt_of_pos _ (by decide)
  unfold okF txF
  have : (zs.extract 0 (1 + n % 128).toNat).size = min (1 + n % 128).toNat zs.size := by simp
  rw [this, zs_size]
  omega
theorem OwnS.shape {w : World} {B : Nat} {v : Value} {l : List ByteArray} (h : OwnS w B v l) : (v = .slice none 0 0 ∧ l = []) ∨ ∃ g cap, v = .slice (some ⟨g, 0, none⟩) l.length cap ∧ l.length ≤ cap := by
  obtain ⟨_, h2⟩ := h
  rcases h2 with ⟨h, hn⟩ | ⟨g, cap, cur, hv, hB, hg, r⟩
  · exact .inl ⟨h, List.eq_nil_of_length_eq_zero hn⟩
  · exact .inr ⟨g, cap, hv, r.1⟩
theorem IsS.cut {w : World} {p : Option Addr} {n c k : Nat} {l : List ByteArray} (h : IsS w (.slice p n c) l) (hk : k ≤ l.length) : IsS w (.slice p k c) (l.take k) := by
  obtain ⟨p', c', e, h⟩ := h
  cases e
  have hl : (l.take k).length = k := by rw [List.length_take]; omega
  refine ⟨p, c, by rw [hl], fun j hj => ?_⟩
  rw [hl] at hj
  obtain ⟨b, off, hp, hc⟩ := h j (by omega)
  exact ⟨b, off, hp, by rw [List.getElem_take]; exact hc⟩
theorem cell_at {w : World} {g n c k : Nat} {l : List ByteArray} (h : IsS w (.slice (some ⟨g, 0, none⟩) n c) l) (hk : k < l.length) : w.cell? ⟨g, k, none⟩ = some (.string l[k]) := by
  obtain ⟨p, c', e, h⟩ := h
  cases e
  obtain ⟨b, off, hp, hc⟩ := h k hk
  cases hp
  simpa using hc
theorem sumF_le : ∀ l : List ByteArray, sumF l ≤ 130 * l.length
  | [] => by simp [sumF]
  | s :: l => by
    have := sumF_le l
    have := fsz_le s
    rw [sumF_cons, List.length_cons]
    omega
theorem jn_size {l : List ByteArray} (h : ∀ s ∈ l, okF s) : (jnT l).size = sumF l := by
  rw [list_sz, jn_data h]
  induction l with
  | nil => rfl
  | cons s l ih =>
    rw [List.flatMap_cons, List.length_append, ih (fun t ht => h t (List.mem_cons_of_mem _ ht)), sumF_cons, fsz_ok (h s (List.mem_cons_self ..)), frmB_len]
set_option maxRecDepth 100000 in
set_option maxHeartbeats 8000000 in
theorem ffits_walk (v : Value) (l : List Int) (m : Int) (w : World) (hv : IsIk .u8 w v l) (hb8 : ∀ n ∈ l, 0 ≤ n ∧ n ≤ 255) (hm0 : 0 ≤ m) (hm : m ≤ 65535) :
    Calls Try.prog 6 #[v, .int .u16 m] w fun e w' => e = .returned (.bool true) ∧ Below w.heap.size w w' := by
  have aw := Lib.hid (fun W => awake_any W)
  obtain ⟨p, cap, rfl, hp⟩ := hv
  have HP := Lib.hid hp
  have H8 := Lib.hid hb8
  clear hp hb8
  by_cases h20 : l.length ≤ 20
  case neg =>
    have h20' : (20 : Int) < l.length := by omega
    clear h20
    go_enter Try.func6, Try.ntmps6
    go_wp2_with fail
    refine (aw.out _).mono ?_; rintro e w1 ⟨rfl, hb1⟩
    go_wp2
    go_ret
    exact ⟨rfl, hb1⟩
  have h20' : ¬ (20 : Int) < l.length := by omega
  obtain ⟨M, hmk, hcv'⟩ := zs_all
  have hcv := hcv' w
  clear hcv'
  have hzs := zs_size
  have HTX : Hid (∀ n : Int, txF n = zs.extract 0 (1 + n % 128).toNat) := Lib.hid (fun _ => rfl)
  have HTO := Lib.hid txF_ok
  generalize zs = Z at hcv hzs HTX
  go_enter Try.func6, Try.ntmps6
  go_wp2
  go_loopw [6, 7] (fun av i wr => ∃ k : Nat, i = .int .i64 k ∧ k ≤ l.length ∧ OwnS wr w.heap.size av ((l.take k).map txF) ∧ Below w.heap.size w wr) (fun _ i _ => l.length - (intOf i).toNat)
  case atStart => exact ⟨0, rfl, Nat.zero_le _, OwnS.nil _ _, by (repeat (first | (with_reducible exact Below.refl _ _) | ((with_reducible refine below_alloc ?_ ?_ _); · (first | omega | (simp; done) | (simp; omega))) | ((with_reducible refine below_setCell ?_ ?_ _); · (first | omega | (simp; done) | (simp; omega))) | (with_reducible refine Below.drew ?_) | (with_reducible refine below_drewN ?_ _) | ((with_reducible refine below_call (by assumption) ?_ ?_); · (first | omega | (simp; done) | (simp; omega)))))⟩
  case round =>
    obtain ⟨k, rfl, hk, ho, hB⟩ := hrel
    have HO := Lib.hid ho
    have hz := hB.size
    clear ho hcv hmk
    by_cases hlt : k < l.length
    · have hlt' : (k : Int) < l.length := by omega
      obtain ⟨b, off, rfl, hc⟩ := HP.out k hlt
      have hc' := (hB.cell (p := ⟨b, off + k, none⟩) (World.block_lt_of_cell? _ _ hc)).trans hc
      have h8 := H8.out _ (List.getElem_mem hlt)
      have hnx : Hid ((l.take (k + 1)).map txF = (l.take k).map txF ++ [txF l[k]]) := Lib.hid (by rw [List.take_succ_eq_append_getElem hlt, List.map_append]; rfl)
      have htx := Lib.hid (HTX.out l[k])
      have hll : ((l.take k).map txF).length ≤ 20 := by rw [List.length_map, List.length_take]; omega
      generalize l[k] = n at hc' h8 hnx htx
      have hr0 : 0 ≤ n % 128 := Int.emod_nonneg _ (by decide)
      have hr1 : n % 128 < 128 := Int.emod_lt_of_pos _ (by decide)
      clear hc
      go_wp2_with (at_builtin; (refine app_one rfl _ _ rfl w.heap.size ((l.take k).map txF) _ (Z.extract 0 (1 + n % 128).toNat) ⟨wr.heap.size, 0, none⟩ rfl (HO.out.alloc _) rfl (by simp [go_sem]) (by omega) (by simp; omega) ?_; intro v5 w5 hown hbel))
      go_roundw
      case rel => exact ⟨k + 1, by go_num, by omega, by rw [hnx.out, htx.out]; exact hown, (below_alloc (by omega) hB _).trans hbel⟩
      case measure => simp [intOf]; omega
    · obtain rfl : k = l.length := by omega
      have ho2 := HO.out
      rw [List.take_length] at ho2
      have HO2 := Lib.hid ho2
      clear ho2
      have hAl : (l.map txF).length ≤ 20 := by rw [List.length_map]; omega
      have HAO : Hid (∀ s ∈ l.map txF, okF s) := Lib.hid (fun s hs => by
        obtain ⟨n, _, rfl⟩ := List.mem_map.1 hs
        exact HTO.out n)
      clear HO HTX HTO
      generalize l.map txF = A at HO2 hAl HAO
      have hk1 := fit_le A m
      obtain ⟨hk2, _⟩ := fit_sum A m hm0
      have HK3 := Lib.hid (fit_most A m HAO.out)
      have hk4 := fit_same A (fitN A m) HAO.out hk1
      obtain ⟨j, hj⟩ : ∃ j, fitN A m = j := ⟨_, rfl⟩
      have hTO : ∀ s ∈ A.take j, okF s := fun s hs => HAO.out s (List.mem_of_mem_take hs)
      have hjs := jn_size hTO
      have hje := jn_ok.2 hTO
      have sA : ∀ s ∈ A, s.size ≤ 1000000 := fun s hs => by have := (HAO.out s hs).2; omega
      have sT : ∀ s ∈ A.take j, s.size ≤ 1000000 := fun s hs => by have := (hTO s hs).2; omega
      have q1 := Lib.hid (fun v W hv => ffit_any v A m W hv (by omega) sA (by omega) (by omega))
      have q2 := Lib.hid (fun v W hv => fjoin_any v (A.take j) W hv (by rw [List.length_take]; omega) sT)
      rw [hj] at q1 hk1 hk2 hk4
      have q4 := Lib.hid (fun v W hv => ffit_any v A ((sumF (A.take j) : Nat) : Int) W hv (by omega) sA (by omega) (by omega))
      have q5 := Lib.hid (fun v W hv => ffit_any v A (((sumF (A.take j) : Nat) : Int) - 1) W hv (by omega) sA (by omega) (by omega))
      rw [hk4.1] at q4
      rw [hje] at q2
      rw [← hjs] at q4 q5 hk2
      have hw1 : IntKind.i64.wrap (((jnT (A.take j)).size : Int) - 1) = ((jnT (A.take j)).size : Int) - 1 := IntWalk.i64_in _ (by omega)
      have hw2 : IntKind.i64.wrap ((j : Int) - 1) = (j : Int) - 1 := IntWalk.i64_in _ (by omega)
      have hsm : (jnT (A.take j)).size ≤ 65535 := by omega
      have e1 : ¬ ((m : Int) < (jnT (A.take j)).size) := by omega
      have e2 : ((j : Int) == (j : Int)) = true := by simp
      have e3 : (((j : Int) - 1) == ((j : Int) - 1)) = true := by simp
      have e4 : ¬ ((j : Int) < 0) := by omega
      have e5 : ¬ ((A.length : Int) < j) := by omega
      have e6 : (j : Int) ≤ A.length := by omega
      have HK4 : Hid (0 < j → fitN A (((jnT (A.take j)).size : Int) - 1) = j - 1) := Lib.hid (fun h => by rw [hjs]; exact hk4.2 h)
      have HK5 : Hid (∀ h : j < A.length, m < ((jnT (A.take j)).size : Int) + (fsz A[j] : Int)) := Lib.hid (fun h => by
        have := HK3.out (by rw [hj]; exact h)
        simp only [hj] at this
        rw [hjs]
        exact this)
      have q3 : ∀ h : j < A.length, Hid (∀ W, Calls Try.prog 17 #[.string A[j]] W fun e w' => e = .returned (.int .i64 (fsz A[j] : Int)) ∧ Below W.heap.size W w') := fun h => Lib.hid (fun W => fsize_any A[j] W (sA _ (List.getElem_mem h)))
      have RA := Lib.hid HO2.out.reads
      have hsh := HO2.out.shape
      clear HK3 hk4 hjs hje hTO sA sT hk2 HO2
      generalize jnT (A.take j) = s at q2 q4 q5 hw1 e1 hsm HK4 HK5
      by_cases hj0 : j = 0
      · rcases hsh with ⟨rfl, rfl⟩ | ⟨g, capA, rfl, hcap⟩
        · subst hj0
          clear q3 q5 HK4 HK5
          simp only [List.length_nil, List.take_nil] at *
          go_wp2_with fail
          refine (q1.out _ _ RA.out).mono ?_; rintro e w1 ⟨rfl, hb1⟩
          have B1 := below_call hb1 hB.size hB
          have R1 := Lib.hid (RA.out.call hb1)
          go_wp2_with fail
          refine (q2.out _ _ R1.out).mono ?_; rintro e w2 ⟨rfl, hb2⟩
          have B2 := below_call hb2 B1.size B1
          have R2 := Lib.hid (R1.out.call hb2)
          go_wp2_with fail
          refine (q4.out _ _ R2.out).mono ?_; rintro e w3 ⟨rfl, hb3⟩
          have B3 := below_call hb3 B2.size B2
          have R3 := Lib.hid (R2.out.call hb3)
          go_wp2_with fail
          refine (aw.out _).mono ?_; rintro e w4 ⟨rfl, hb4⟩
          have B4 := below_call hb4 B3.size B3
          go_wp2
          go_ret
          exact ⟨rfl, B4⟩
        · have hcap' : (j : Int) ≤ capA := by omega
          subst hj0
          by_cases hlt : 0 < A.length
          · have n1 : ((((0 : Nat) : Int) : Int) == (A.length : Int)) = false := by simp; omega
            have n2 := HK5.out hlt
            have hfl := fsz_le A[0]
            have hw3 : IntKind.i64.wrap ((s.size : Int) + (fsz A[0] : Int)) = (s.size : Int) + fsz A[0] := IntWalk.i64_in _ (by omega)
            have hlt' : (((0 : Nat) : Int) : Int) < A.length := by omega
            clear HK4 HK5
            go_wp2_with fail
            refine (q1.out _ _ RA.out).mono ?_; rintro e w1 ⟨rfl, hb1⟩
            have B1 := below_call hb1 hB.size hB
            have R1 := Lib.hid (RA.out.call hb1)
            go_wp2_with fail
            refine (q2.out _ _ (IsS.cut R1.out (by omega))).mono ?_; rintro e w2 ⟨rfl, hb2⟩
            have B2 := below_call hb2 B1.size B1
            have R2 := Lib.hid (R1.out.call hb2)
            have hcc := cell_at R2.out hlt
            have z2 := B2.size
            go_wp2_with fail
            refine ((q3 hlt).out _).mono ?_; rintro e w3 ⟨rfl, hb3⟩
            have B3 := below_call hb3 B2.size B2
            have R3 := Lib.hid (R2.out.call hb3)
            clear hcc
            go_wp2_with fail
            refine (q4.out _ _ R3.out).mono ?_; rintro e w4 ⟨rfl, hb4⟩
            have B4 := below_call hb4 B3.size B3
            have R4 := Lib.hid (R3.out.call hb4)
            go_wp2_with fail
            refine (aw.out _).mono ?_; rintro e w5 ⟨rfl, hb5⟩
            have B5 := below_call hb5 B4.size B4
            go_wp2
            go_ret
            exact ⟨rfl, B5⟩
          · have n1 : ((((0 : Nat) : Int) : Int) == (A.length : Int)) = true := by simp; omega
            clear HK4 HK5 q3
            go_wp2_with fail
            refine (q1.out _ _ RA.out).mono ?_; rintro e w1 ⟨rfl, hb1⟩
            have B1 := below_call hb1 hB.size hB
            have R1 := Lib.hid (RA.out.call hb1)
            go_wp2_with fail
            refine (q2.out _ _ (IsS.cut R1.out (by omega))).mono ?_; rintro e w2 ⟨rfl, hb2⟩
            have B2 := below_call hb2 B1.size B1
            have R2 := Lib.hid (R1.out.call hb2)
            go_wp2_with fail
            refine (q4.out _ _ R2.out).mono ?_; rintro e w3 ⟨rfl, hb3⟩
            have B3 := below_call hb3 B2.size B2
            have R3 := Lib.hid (R2.out.call hb3)
            go_wp2_with fail
            refine (aw.out _).mono ?_; rintro e w4 ⟨rfl, hb4⟩
            have B4 := below_call hb4 B3.size B3
            go_wp2
            go_ret
            exact ⟨rfl, B4⟩
      · rcases hsh with ⟨rfl, rfl⟩ | ⟨g, capA, rfl, hcap⟩
        · exact absurd (Nat.le_zero.1 hk1) hj0
        · have hcap' : (j : Int) ≤ capA := by omega
          have z0 : ((j : Int) == 0) = false := by simp; omega
          have hq := HK4.out (by omega)
          rw [hq, show ((j - 1 : Nat) : Int) = (j : Int) - 1 by omega] at q5
          by_cases hlt : j < A.length
          · have n1 : ((j : Int) == (A.length : Int)) = false := by simp; omega
            have n2 := HK5.out hlt
            have hfl := fsz_le A[j]
            have hw3 : IntKind.i64.wrap ((s.size : Int) + (fsz A[j] : Int)) = (s.size : Int) + fsz A[j] := IntWalk.i64_in _ (by omega)
            have hlt' : (j : Int) < A.length := by omega
            clear HK4 HK5
            go_wp2_with fail
            refine (q1.out _ _ RA.out).mono ?_; rintro e w1 ⟨rfl, hb1⟩
            have B1 := below_call hb1 hB.size hB
            have R1 := Lib.hid (RA.out.call hb1)
            go_wp2_with fail
            refine (q2.out _ _ (IsS.cut R1.out (by omega))).mono ?_; rintro e w2 ⟨rfl, hb2⟩
            have B2 := below_call hb2 B1.size B1
            have R2 := Lib.hid (R1.out.call hb2)
            have hcc := cell_at R2.out hlt
            have z2 := B2.size
            go_wp2_with fail
            refine ((q3 hlt).out _).mono ?_; rintro e w3 ⟨rfl, hb3⟩
            have B3 := below_call hb3 B2.size B2
            have R3 := Lib.hid (R2.out.call hb3)
            clear hcc
            go_wp2_with fail
            refine (q4.out _ _ R3.out).mono ?_; rintro e w4 ⟨rfl, hb4⟩
            have B4 := below_call hb4 B3.size B3
            have R4 := Lib.hid (R3.out.call hb4)
            go_wp2_with fail
            refine (q5.out _ _ R4.out).mono ?_; rintro e w5 ⟨rfl, hb5⟩
            have B5 := below_call hb5 B4.size B4
            go_wp2_with fail
            refine (aw.out _).mono ?_; rintro e w6 ⟨rfl, hb6⟩
            have B6 := below_call hb6 B5.size B5
            go_wp2
            go_ret
            exact ⟨rfl, B6⟩
          · have n1 : ((j : Int) == (A.length : Int)) = true := by simp; omega
            clear HK4 HK5 q3
            go_wp2_with fail
            refine (q1.out _ _ RA.out).mono ?_; rintro e w1 ⟨rfl, hb1⟩
            have B1 := below_call hb1 hB.size hB
            have R1 := Lib.hid (RA.out.call hb1)
            go_wp2_with fail
            refine (q2.out _ _ (IsS.cut R1.out (by omega))).mono ?_; rintro e w2 ⟨rfl, hb2⟩
            have B2 := below_call hb2 B1.size B1
            have R2 := Lib.hid (R1.out.call hb2)
            go_wp2_with fail
            refine (q4.out _ _ R2.out).mono ?_; rintro e w3 ⟨rfl, hb3⟩
            have B3 := below_call hb3 B2.size B2
            have R3 := Lib.hid (R2.out.call hb3)
            go_wp2_with fail
            refine (q5.out _ _ R3.out).mono ?_; rintro e w4 ⟨rfl, hb4⟩
            have B4 := below_call hb4 B3.size B3
            go_wp2_with fail
            refine (aw.out _).mono ?_; rintro e w5 ⟨rfl, hb5⟩
            have B5 := below_call hb5 B4.size B4
            go_wp2
            go_ret
            exact ⟨rfl, B5⟩

set_option maxRecDepth 100000 in
theorem ffits_lifted (os : Os) (started : os.Started) (H : Type) (enc : TypeId × Value → H) :
    ReturnsInHanded {} Try.checked os 6 .any (Rows.frameFitsSpec.pre6 enc Try.prog Try.f6 Rows.frameFitsRow.domain false) (Rows.frameFitsSpec.post enc Try.prog Try.f6 false true false false) := by
  refine returnsInHanded_of_change (C := Try.checked) own started (by kernel_rfl) Try.func6
    (ChangeSpec.witness6 (enc := enc) (C := Try.checked) false ⟨#[], #[.slice none 0 0, .int .u16 0], []⟩ 8 (by kernel_rfl) (by kernel_rfl) (by kernel_rfl) (by kernel_rfl)) ?_
  intro W base args ds gs before hval0 hW hcnd _
  have hval : ∀ (j : Nat) t v, Try.f6.params[j]? = some t → args[j]? = some v → Value.okWide Try.prog W .any base t v := hval0
  have hW' := hW
  obtain ⟨p, q, hA0, hV, rfl, hfz, hnd⟩ := hW
  have hA : DataW.TrodAll enc Try.prog W 0 (fun _ => true) true Try.f6.params.toList args.toList ds p := hA0
  rw [Try.params6] at hA hval
  obtain ⟨v0, vs0, d0, ds0, p0, q0, hargs, rfl, rfl, h0, r0⟩ := trodAll_cons hA
  obtain ⟨v1, vs1, d1, ds1, p1, q1, rfl, rfl, rfl, h1, r1⟩ := trodAll_cons r0
  obtain ⟨rfl, rfl, rfl⟩ := trodAll_nil r1
  obtain rfl : args = #[v0, v1] := by cases args; simp_all
  obtain ⟨rfl, rfl⟩ := trodVars_none hV
  obtain ⟨l, hl, hln, hls⟩ := open_nums_k Try.underlying45 Try.underlying5 (by kernel_rfl) (hval 0 45 v0 rfl rfl) h0
  obtain ⟨m, rfl, rfl, rfl, wm⟩ := open_int Try.underlying46 (hval 1 46 v1 rfl rfl) h1
  have hm : 0 ≤ m ∧ m ≤ 65535 := by simpa [Lit.wf, IntKind.min, IntKind.max, IntKind.signed, IntKind.bits] using wm
  refine (ffits_walk v0 l m W hl (fun n hn => bounds_u8 (hls n hn)) hm.1 hm.2).mono fun e W' ⟨he, hb⟩ => ?_
  subst he
  exact ⟨_, rfl, law_post rfl rfl Try.underlying4 (by kernel_rfl) rfl hW' hb⟩
theorem ffits_holds : Rows.FrameFitsSaid :=
  OpenClaim.holds_of_wide 6 Try.f6 rfl rfl rfl rfl rfl rfl rfl ⟨rfl, rfl, rfl, rfl, rfl⟩ rfl rfl rfl rfl rfl (by kernel_rfl) Try.func6 (by kernel_rfl)
    (of_decide_eq_true (by kernel_rfl)) (by unfold Func.isWrapper; first | (rw [if_pos (by decide +kernel)]; kernel_rfl) | (rw [if_neg (by decide +kernel)]; exact ⟨rfl, rfl⟩))
    (fun os started H enc _ => ffits_lifted os started H enc)
end Go.Proofs.Ytbaclfpkaobggaa
