/- Plain mathematics of ChainKeeps: in which list a place stands, as a plain row of numbers, behind each deed. -/
import Derived.Test.YtkcenadenmkgnaaC8M
namespace Go.Proofs.Ytkcenadenmkgnaa
open Go.RowKit
set_option linter.unusedVariables false
set_option linter.unusedSimpArgs false

/-- the list of a place, from 1 on; 0: it stands in none -/
def wh (st : LSt) (m : Nat) : Int := (nodAt st.1 m).1 + 1
def whR (st : LSt) : List Int := st.1.map fun n => n.1 + 1
theorem whR_at (st : LSt) (m : Nat) (h : m < (whR st).length) : (whR st)[m] = wh st m := by
  have h' : m < st.1.length := by simpa [whR] using h
  unfold wh
  rw [nodAt_lt _ _ h']
  simp [whR]
theorem whR_len (st : LSt) : (whR st).length = st.1.length := by simp [whR]
theorem wh_in {st : LSt} {L : List (List Int)} (h : Rep st L) {j m : Nat} (hj : j < L.length) (hm : (m : Int) ∈ L[j]) : wh st m = j + 1 := by
  unfold wh; rw [(rep_mem h hj hm).2.1]
theorem wh_no {st : LSt} {L : List (List Int)} (h : Rep st L) {m : Nat} (hl : m < st.1.length) (hm : ∀ j (hj : j < L.length), (m : Int) ∉ L[j]) : wh st m = 0 := by
  unfold wh; rw [h.free m hl hm]; rfl
/-- the one or the other -/
theorem wh_or {st : LSt} {L : List (List Int)} (h : Rep st L) {m : Nat} (hl : m < st.1.length) :
    (∃ j, ∃ (hj : j < L.length), (m : Int) ∈ L[j] ∧ wh st m = j + 1) ∨ ((∀ j (hj : j < L.length), (m : Int) ∉ L[j]) ∧ wh st m = 0) := by
  by_cases hm : ∃ j, ∃ (hj : j < L.length), (m : Int) ∈ L[j]
  · obtain ⟨j, hj, hm⟩ := hm
    exact .inl ⟨j, hj, hm, wh_in h hj hm⟩
  · have hm' : ∀ j (hj : j < L.length), (m : Int) ∉ L[j] := fun j hj e => hm ⟨j, hj, e⟩
    exact .inr ⟨hm', wh_no h hl hm'⟩
theorem wh_rng {st : LSt} {L : List (List Int)} (h : Rep st L) {m : Nat} (hl : m < st.1.length) : 0 ≤ wh st m ∧ wh st m ≤ L.length := by
  rcases wh_or h hl with ⟨j, hj, -, e⟩ | ⟨-, e⟩ <;> rw [e] <;> omega
theorem wh_mem {st : LSt} {L : List (List Int)} (h : Rep st L) {j m : Nat} (hl : m < st.1.length) (hj : j < L.length) : wh st m = j + 1 ↔ (m : Int) ∈ L[j] := by
  refine ⟨fun e => ?_, wh_in h hj⟩
  rcases wh_or h hl with ⟨i, hi, hm, e'⟩ | ⟨-, e'⟩
  · obtain rfl : i = j := by omega
    exact hm
  · omega
theorem row_ext {st st' : LSt} {R : List Int} (hl : R.length = st'.1.length) (h : ∀ m (h1 : m < R.length), R[m] = wh st' m) : whR st' = R := by
  refine List.ext_getElem (by rw [whR_len, hl]) fun m h1 h2 => ?_
  rw [whR_at, h m h2]
theorem keep_push {st : LSt} {L : List (List Int)} (h : Rep st L) (hn : 1 ≤ st.1.length ∧ st.1.length ≤ 64) (hk : 1 ≤ L.length ∧ L.length ≤ 8) {i x : Nat} (hi : i < L.length) (hx : x < st.1.length) :
    (wh st x = 0 → pushE st i x = 0 ∧ Rep (pushS st i x) (L.set i (L[i] ++ [(x : Int)])) ∧ whR (pushS st i x) = (whR st).set x (i + 1)) ∧
    (wh st x ≠ 0 → pushE st i x = 13 ∧ pushS st i x = st) := by
  obtain ⟨p1, p2⟩ := push_rep h hn hk hi hx
  constructor
  · intro h0
    have hno : ∀ j (hj : j < L.length), (x : Int) ∉ L[j] := fun j hj hm => by have := wh_in h hj hm; omega
    obtain ⟨e, -, hr⟩ := p2 hno
    refine ⟨e, hr, row_ext (st := st) (by rw [List.length_set, whR_len, (push_len st i x).1]) fun m h1 => ?_⟩
    have hm : m < st.1.length := by simpa [whR_len] using h1
    have hm' : m < (pushS st i x).1.length := by rw [(push_len st i x).1]; exact hm
    rw [List.getElem_set]
    split
    · rename_i e1
      subst e1
      exact (wh_in hr (j := i) (by simpa using hi) (by rw [List.getElem_set_self]; simp)).symm
    · rename_i hne
      rw [whR_at]
      rcases wh_or h hm with ⟨j, hj, hmj, e2⟩ | ⟨hno2, e2⟩
      · rw [e2]
        refine (wh_in hr (j := j) (by simpa using hj) ?_).symm
        rw [List.getElem_set]
        split
        · rename_i e3; subst e3; exact List.mem_append_left _ hmj
        · exact hmj
      · rw [e2]
        refine (wh_no hr hm' fun j hj hmj => ?_).symm
        rw [List.getElem_set] at hmj
        split at hmj
        · rcases List.mem_append.1 hmj with hmj | hmj
          · exact hno2 i hi hmj
          · have : (m : Int) = x := by simpa using hmj
            omega
        · exact hno2 j (by simpa using hj) hmj
  · intro h0
    refine p1 ?_
    rcases wh_or h hx with ⟨j, hj, hm, -⟩ | ⟨-, e⟩
    · exact ⟨j, hj, hm⟩
    · exact absurd e h0
theorem unl_rep {st : LSt} {L : List (List Int)} (h : Rep st L) (hn : 1 ≤ st.1.length ∧ st.1.length ≤ 64) (hk : 1 ≤ L.length ∧ L.length ≤ 8) {x : Nat} (hx : x < st.1.length) :
    (wh st x ≠ 0 → unlE st x = 0 ∧ (unlS st x).1.length = st.1.length ∧ (∃ L', L'.length = L.length ∧ Rep (unlS st x) L') ∧ whR (unlS st x) = (whR st).set x 0) ∧
    (wh st x = 0 → unlE st x = 6 ∧ unlS st x = st ∧ whR st = (whR st).set x 0) := by
  have hc := chk_rep h hn hk
  have hxb : inB x 0 ((st.1.length : Int) - 1) = true := by rw [inB_iff]; omega
  have hE : unlE st x = if (nodAt st.1 x).1 = -1 then 6 else 0 := by
    unfold unlE
    rw [if_neg (by simp [hc]), if_neg (by simp [hxb]), Int.toNat_natCast]
  constructor
  · intro h0
    rcases wh_or h hx with ⟨i, hi, hm, e⟩ | ⟨-, e⟩
    · have e1 : unlE st x = 0 := by rw [hE, if_neg (by unfold wh at e; omega)]
      have e2 : unlS st x = outP st x := by unfold unlS; rw [if_pos e1, Int.toNat_natCast]
      obtain ⟨A, B, hAB⟩ := List.append_of_mem hm
      have hr := rep_out h hi hAB
      have hnd := h.nodup hi
      rw [hAB] at hnd
      rw [e2]
      have hl := (outP_len st x).1
      refine ⟨e1, hl, ⟨_, by simp, hr⟩, row_ext (st := st) (by rw [List.length_set, whR_len, hl]) fun m h1 => ?_⟩
      have hm0 : m < st.1.length := by simpa [whR_len] using h1
      have hm' : m < (outP st x).1.length := by rw [hl]; exact hm0
      rw [List.getElem_set]
      split
      · rename_i e3
        subst e3
        refine (wh_no hr hm' fun j hj hmj => ?_).symm
        rw [List.getElem_set] at hmj
        split at hmj
        · rw [List.nodup_append] at hnd
          obtain ⟨n1, n2, n3⟩ := hnd
          rw [List.nodup_cons] at n2
          rcases List.mem_append.1 hmj with hmj | hmj
          · exact n3 _ hmj _ (List.mem_cons_self ..) rfl
          · exact n2.1 hmj
        · rename_i hne
          exact hne (h.disj hi (by simpa using hj) hm hmj)
      · rename_i hne
        rw [whR_at]
        rcases wh_or h hm0 with ⟨j, hj, hmj, e4⟩ | ⟨hno2, e4⟩
        · rw [e4]
          refine (wh_in hr (j := j) (by simpa using hj) ?_).symm
          rw [List.getElem_set]
          split
          · rename_i e3
            subst e3
            rw [hAB] at hmj
            rcases List.mem_append.1 hmj with hmj | hmj
            · exact List.mem_append_left _ hmj
            · rcases List.mem_cons.1 hmj with hmj | hmj
              · omega
              · exact List.mem_append_right _ hmj
          · exact hmj
        · rw [e4]
          refine (wh_no hr hm' fun j hj hmj => ?_).symm
          rw [List.getElem_set] at hmj
          split at hmj
          · refine hno2 i hi ?_
            rw [hAB]
            rcases List.mem_append.1 hmj with hmj | hmj
            · exact List.mem_append_left _ hmj
            · exact List.mem_append_right _ (List.mem_cons_of_mem _ hmj)
          · exact hno2 j (by simpa using hj) hmj
    · exact absurd e h0
  · intro h0
    have e1 : unlE st x = 6 := by rw [hE, if_pos (by unfold wh at h0; omega)]
    refine ⟨e1, by unfold unlS; rw [if_neg (by omega)], ?_⟩
    refine List.ext_getElem (by simp) fun m h1 h2 => ?_
    rw [List.getElem_set]
    split
    · rename_i e3; subst e3; rw [whR_at, h0]
    · rfl
theorem keep_turn {st : LSt} {L : List (List Int)} (h : Rep st L) (hn : 1 ≤ st.1.length ∧ st.1.length ≤ 64) (hk : 1 ≤ L.length ∧ L.length ≤ 8) {i : Nat} (hi : i < L.length) :
    (turnS st i).1.length = st.1.length ∧ (∃ L', L'.length = L.length ∧ Rep (turnS st i) L') ∧ whR (turnS st i) = whR st := by
  obtain ⟨t1, t2, t3⟩ := turn_rep h hn hk hi
  refine ⟨t1, ?_⟩
  cases e : L[i] with
  | nil => rw [t2 e]; exact ⟨⟨L, rfl, h⟩, rfl⟩
  | cons a r =>
    have hr := t3 a r e
    refine ⟨⟨_, by simp, hr⟩, row_ext (st := st) (by rw [whR_len, t1]) fun m h1 => ?_⟩
    have hm : m < st.1.length := by simpa [whR_len] using h1
    have hm' : m < (turnS st i).1.length := by rw [t1]; exact hm
    rw [whR_at]
    rcases wh_or h hm with ⟨j, hj, hmj, e2⟩ | ⟨hno2, e2⟩
    · rw [e2]
      refine (wh_in hr (j := j) (by simpa using hj) ?_).symm
      rw [List.getElem_set]
      split
      · rename_i e3
        subst e3
        rw [e] at hmj
        rcases List.mem_cons.1 hmj with hmj | hmj
        · exact List.mem_append_right _ (by simp [hmj])
        · exact List.mem_append_left _ hmj
      · exact hmj
    · rw [e2]
      refine (wh_no hr hm' fun j hj hmj => ?_).symm
      rw [List.getElem_set] at hmj
      split at hmj
      · refine hno2 i hi ?_
        rw [e]
        rcases List.mem_append.1 hmj with hmj | hmj
        · exact List.mem_cons_of_mem _ hmj
        · simp at hmj; rw [hmj]; exact List.mem_cons_self ..
      · exact hno2 j (by simpa using hj) hmj
theorem keep_spl {st : LSt} {L : List (List Int)} (h : Rep st L) (hn : 1 ≤ st.1.length ∧ st.1.length ≤ 64) (hk : 1 ≤ L.length ∧ L.length ≤ 8) {i j : Nat} (hi : i < L.length) (hj : j < L.length) :
    (i ≠ j → splE st i j = 0) ∧ (i = j → splE st i j = 2) ∧ (splS st i j).1.length = st.1.length ∧ (∃ L', L'.length = L.length ∧ Rep (splS st i j) L') ∧ whR (splS st i j) = (whR st).map fun r => if r = (i : Int) + 1 then (j : Int) + 1 else r := by
  have hc := chk_rep h hn hk
  have hbi : isB st i = true := by unfold isB; rw [inB_iff, (rep_len h).1]; omega
  have hbj : isB st j = true := by unfold isB; rw [inB_iff, (rep_len h).1]; omega
  have hE : splE st i j = if (i : Int) = j then 2 else 0 := by
    unfold splE
    rw [if_neg (by simp [hc]), if_neg (by simp [hbi]), if_neg (by simp [hbj])]
  refine ⟨fun hne => by rw [hE, if_neg (by omega)], fun e => by rw [hE, if_pos (by omega)], ?_⟩
  by_cases hij : i = j
  · subst hij
    have e : splS st i i = st := by unfold splS; rw [hE, if_pos rfl]; rfl
    rw [e]
    refine ⟨rfl, ⟨L, rfl, h⟩, ?_⟩
    refine List.ext_getElem (by simp) fun m h1 h2 => ?_
    rw [List.getElem_map]
    split
    · rename_i e2; exact e2
    · rfl
  · have e : splS st i j = L[i].foldl (splF j) st := by
      have e0 : splE st i j = 0 := by rw [hE, if_neg (by omega)]
      unfold splS
      rw [if_pos e0, Int.toNat_natCast, Int.toNat_natCast, rep_walk h hi]
    have hr := rep_fold hij hi hj h L[i].length (Nat.le_refl _)
    rw [List.take_length, List.drop_length, ← e] at hr
    have hl : (splS st i j).1.length = st.1.length := by
      rw [e]
      generalize L[i] = X
      clear hr e hE hc hbi hbj
      induction X generalizing st with
      | nil => rfl
      | cons a r ih =>
        rw [List.foldl_cons]
        have hx : ∀ (X : List Int) (s : LSt), (X.foldl (splF j) s).1.length = s.1.length := by
          intro X
          induction X with
          | nil => intro s; rfl
          | cons b q ihq => intro s; rw [List.foldl_cons, ihq, (splF_len j s b).1]
        rw [hx, (splF_len j st a).1]
    refine ⟨hl, ⟨_, by simp, hr⟩, row_ext (st := st) (by rw [List.length_map, whR_len, hl]) fun m h1 => ?_⟩
    have hm : m < st.1.length := by simpa [whR_len] using h1
    have hm' : m < (splS st i j).1.length := by rw [hl]; exact hm
    rw [List.getElem_map, whR_at]
    rcases wh_or h hm with ⟨q, hq, hmq, e2⟩ | ⟨hno2, e2⟩
    · rw [e2]
      split
      · rename_i e3
        obtain rfl : q = i := by omega
        refine (wh_in hr (j := j) (by simpa using hj) ?_).symm
        rw [List.getElem_set_self]
        exact List.mem_append_right _ hmq
      · rename_i e3
        refine (wh_in hr (j := q) (by simpa using hq) ?_).symm
        rw [List.getElem_set]
        split
        · rename_i e4; subst e4; exact List.mem_append_left _ hmq
        · rw [List.getElem_set_ne (by omega)]; exact hmq
    · rw [e2, if_neg (by omega)]
      refine (wh_no hr hm' fun q hq hmq => ?_).symm
      rw [List.getElem_set] at hmq
      split at hmq
      · rcases List.mem_append.1 hmq with hmq | hmq
        · exact hno2 j hj hmq
        · exact hno2 i hi hmq
      · rw [List.getElem_set] at hmq
        split at hmq
        · cases hmq
        · exact hno2 q (by simpa using hq) hmq
/-- so many places say that they stand in a list as it has -/
theorem wh_many {st : LSt} {L : List (List Int)} (h : Rep st L) (hn : 1 ≤ st.1.length ∧ st.1.length ≤ 64) (hk : 1 ≤ L.length ∧ L.length ≤ 8) {i : Nat} (hi : i < L.length) :
    ((whR st).filter fun r => r == (i : Int) + 1).length = L[i].length := by
  have hc := chkL_parts (chk_rep h hn hk)
  have hA := (rightB_parts (hc.2.2.2.2.2 i (by rw [(rep_len h).1]; exact hi))).1
  rw [rep_walk h hi] at hA
  rw [hA]
  unfold whR cntN
  rw [List.filter_map, List.length_map]
  congr 1
  refine List.filter_congr fun x _ => ?_
  show (x.1 + 1 == (i : Int) + 1) = (x.1 == (i : Int))
  rw [Bool.eq_iff_iff, beq_iff_eq, beq_iff_eq]
  omega
/-- counting on by one place -/
theorem cnt_take (l : List Int) (i : Int) (k : Nat) (h : k < l.length) : ((l.take (k + 1)).filter fun r => r == i).length = ((l.take k).filter fun r => r == i).length + if l[k] = i then 1 else 0 := by
  rw [List.take_succ_eq_append_getElem h, List.filter_append, List.length_append]
  congr 1
  by_cases e : l[k] = i
  · simp [e]
  · simp [e]
theorem cnt_le (l : List Int) (i : Int) (k : Nat) : ((l.take k).filter fun r => r == i).length ≤ k := by
  have h1 := List.length_filter_le (fun r => r == i) (l.take k)
  have h2 := List.length_take_le k l
  omega
end Go.Proofs.Ytkcenadenmkgnaa
