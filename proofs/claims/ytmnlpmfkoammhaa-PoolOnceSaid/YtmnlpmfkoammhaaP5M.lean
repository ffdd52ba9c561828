/- Layer 3: the mathematics of PoolBack, as its walk asks for it; what a store in a box leaves. -/
import Derived.Test.YtmnlpmfkoammhaaLawFr
import Derived.Test.YtmnlpmfkoammhaaP3Q
namespace Go.Proofs.Ytmnlpmfkoammhaa
open Go.RowKit
set_option linter.unusedVariables false
set_option linter.unusedSimpArgs false

theorem ahead_ok {n i : Nat} {st : St} (h : AheadInv n i st) : OkSt st ∧ st.1.length = n ∧ n ≤ 64 ∧ st.2.length ≤ 64 := by
  obtain ⟨live, all, has, j, hj, I⟩ := h
  have h1 := I.fre
  have h2 := I.len
  have h3 := I.ok.2.1
  exact ⟨I.ok, h2, by omega, by omega⟩
theorem take_bd {st : St} (h : OkSt st) (v : Int) : 0 ≤ (takeN st v).2.1 ∧ (takeN st v).2.1 ≤ 100000000 := by
  by_cases hf : st.2 = []
  · have : takeN st v = (st, 0, 7) := by unfold takeN; rw [if_neg (fun x => x (chk_iff.2 h)), if_pos (by rw [hf]; rfl)]
    rw [this]; exact ⟨by show (0 : Int) ≤ 0; decide, by show (0 : Int) ≤ 100000000; decide⟩
  · obtain ⟨k, hk, _, hg, _, e, _⟩ := take_ok (v := v) h hf
    obtain ⟨a0, _, _⟩ := h.2.2.1 k hk
    have := h.2.1
    rw [e]
    exact ⟨by show 0 ≤ 64 * _ + (k : Int); omega, by show 64 * _ + (k : Int) ≤ _; omega⟩
theorem back_facts {n i : Nat} {st : St} (h : AheadInv n i st) (hi : i ≤ 1000) (v : Int) :
    (takeN st v = (st, 0, 7) ∧ (hanN st).length = n) ∨ ∃ (X Y Z : St) (a u : Int), takeN st v = (X, a, 0) ∧ giveN X a = (Y, 0) ∧ takeN Y v = (Z, a + 64, 0) ∧ getN Z (a + 64) = (v, true) ∧ getN Z a = (u, false) ∧
      (hanN Y).length = (hanN st).length ∧ (hanN Z).length = (hanN X).length ∧ 0 ≤ a ∧ a ≤ 100000000 ∧ (X.1.length ≤ 64 ∧ X.2.length ≤ 64) ∧ (Y.1.length ≤ 64 ∧ Y.2.length ≤ 65) ∧ (Z.1.length ≤ 64 ∧ Z.2.length ≤ 65) := by
  obtain ⟨ok, l1, l2, l3⟩ := ahead_ok h
  have hb := take_bd ok v
  have t1 := takeN_len st v
  rcases back_math h hi v with hf | ⟨h1, h2, h3, h4, h5, h6, h7, h8⟩
  · exact .inl hf
  · right
    obtain ⟨X, hX⟩ : ∃ X, takeN st v = X := ⟨_, rfl⟩
    rw [hX] at h1 h2 h3 h4 h5 h6 h7 h8 hb t1 ⊢
    have t2 := giveN_len X.1 X.2.1
    obtain ⟨Y, hY⟩ : ∃ Y, giveN X.1 X.2.1 = Y := ⟨_, rfl⟩
    rw [hY] at h2 h3 h4 h5 h6 h7 h8 t2
    have t3 := takeN_len Y.1 v
    obtain ⟨Z, hZ⟩ : ∃ Z, takeN Y.1 v = Z := ⟨_, rfl⟩
    rw [hZ] at h3 h4 h5 h6 h8 t3
    obtain ⟨X, a, x⟩ := X
    obtain ⟨Y, y⟩ := Y
    obtain ⟨Z, b, z⟩ := Z
    dsimp only at h1 h2 h3 h4 h5 h6 h7 h8 hb t1 t2 t3 hY hZ
    subst h1 h2 h3 h4
    exact ⟨X, Y, Z, a, (getN Z a).1, rfl, hY, hZ, h5, Prod.ext rfl h6, h7, h8, hb.1, hb.2, ⟨by omega, by omega⟩, ⟨by omega, by omega⟩, ⟨by omega, by omega⟩⟩

/-- a box of two slices holds no number: so what reads as a state does not lie in it -/
theorem IsSt.far {w w' : World} {k : Nat} {x y : Value} {t : TypeId} {vc vf : Value} {st : St} (hs : IsSt w vc vf st) (hk : w.heap[k]? = some (.cells #[x, y] t))
    (hx : ∃ p n c, x = .slice p n c) (hy : ∃ p n c, y = .slice p n c) (hw : ∀ a : Addr, a.block ≠ k → w'.cell? a = w.cell? a) : IsSt w' vc vf st := by
  obtain ⟨p, n, c, rfl⟩ := hx
  obtain ⟨q, m, d, rfl⟩ := hy
  have no : ∀ (b o : Nat) (u : Value), w.cell? ⟨b, o, none⟩ = some u → (∀ p n c, u ≠ .slice p n c) → b ≠ k := fun b o u hu hn e => by
    subst e
    have := Lib.cell_of_heap hk o
    rw [hu] at this
    match o, this with
    | 0, h => exact hn _ _ _ (by simpa using h)
    | 1, h => exact hn _ _ _ (by simpa using h)
    | o + 2, h => simp at h
  obtain ⟨⟨pc, cc, rfl, hp⟩, ⟨pf, cf, rfl, hq⟩⟩ := hs
  refine ⟨⟨pc, cc, rfl, fun j hj => ?_⟩, ⟨pf, cf, rfl, fun j hj => ?_⟩⟩
  · obtain ⟨b, off, e, h0, h1, h2⟩ := hp j hj
    have hb := no b _ _ h0 (fun _ _ _ => by simp)
    exact ⟨b, off, e, (hw _ hb).trans h0, (hw _ hb).trans h1, (hw _ hb).trans h2⟩
  · obtain ⟨b, off, e, h0⟩ := hq j hj
    have hb := no b _ _ h0 (fun _ _ _ => by simp)
    exact ⟨b, off, e, (hw _ hb).trans h0⟩
theorem IsSt.far2 {w : World} {k : Nat} {x y : Value} {t : TypeId} {vc vf : Value} {st : St} (hs : IsSt w vc vf st) (hk : w.heap[k]? = some (.cells #[x, y] t))
    (hx : ∃ p n c, x = .slice p n c) (hy : ∃ p n c, y = .slice p n c) (u v : Value) : IsSt ((w.setCell ⟨k, 0, none⟩ u).setCell ⟨k, 1, none⟩ v) vc vf st :=
  hs.far hk hx hy fun a ha => by rw [World.cell?_setCell_other _ _ _ _ (fun e => ha (by rw [← e])), World.cell?_setCell_other _ _ _ _ (fun e => ha (by rw [← e]))]
theorem box_set {w : World} {k : Nat} {x y : Value} {t : TypeId} (hk : w.heap[k]? = some (.cells #[x, y] t)) (u v : Value) : ((w.setCell ⟨k, 0, none⟩ u).setCell ⟨k, 1, none⟩ v).heap[k]? = some (.cells #[u, v] t) := by
  have h1 := heap_setCell_same w k 0 #[x, y] t u hk
  have h2 := heap_setCell_same _ k 1 _ t v h1
  rw [h2]; rfl
end Go.Proofs.Ytmnlpmfkoammhaa
