/- Layer 4, the document's: a row of rows in which one is put anew. -/
import Derived.Test.YtkcenadenmkgnaaC6A
import Derived.Test.YtkcenadenmkgnaaC5S
namespace Go.Proofs.Ytkcenadenmkgnaa
open Go.RowKit
set_option linter.unusedVariables false
set_option linter.unusedSimpArgs false

/-- u does not lie in block g -/
def NotAt (g : Nat) (u : Value) : Prop := ∀ b o s n c, u = .slice (some ⟨b, o, s⟩) n c → b ≠ g
theorem IsI.notAt {w : World} {g o : Nat} {u x : Value} {l : List Int} (h : IsI w u l) (hn : NotAt g u) : IsI (w.setCell ⟨g, o, none⟩ x) u l := by
  obtain ⟨p, cap, rfl, h⟩ := h
  refine ⟨p, cap, rfl, fun j hj => ?_⟩
  obtain ⟨b, off, rfl, hc⟩ := h j hj
  have hb := hn b off none _ _ rfl
  exact ⟨b, off, rfl, by rw [World.cell?_setCell_other _ _ _ _ (by intro e; have := congrArg Addr.block e; first | exact hb this | exact hb this.symm)]; exact hc⟩
theorem own_notAt {w : World} {B g n : Nat} {u : Value} {l : List Int} (h : OwnI w B u l) (hne : ∀ q, u.ownBlock = some q → q ≠ g) : NotAt g u := by
  intro b o s n c e
  rcases h.2 with ⟨hv, hn⟩ | ⟨g', cap, cur, hv, r⟩
  · rw [hv] at e; cases e
  · rw [hv] at e; cases e
    exact hne b (by rw [hv]; rfl)
theorem nil_notAt (g : Nat) : NotAt g (.slice none 0 0) := fun b o s n c e => by cases e
/-- a row of rows that can be read, none of them in the row's own block -/
structure RdII (w : World) (B gl cap : Nat) (vs : List Value) (L : List (List Int)) : Prop where
  row : w.ownsRow B 23 1 (.slice (some ⟨gl, 0, none⟩) L.length cap) L.length vs
  inn : ∀ k (h : k < L.length), ∃ u, vs[k]? = some u ∧ IsI w u L[k] ∧ NotAt gl u
theorem RdII.reads {w : World} {B gl cap : Nat} {vs : List Value} {L : List (List Int)} (h : RdII w B gl cap vs L) : IsII w (.slice (some ⟨gl, 0, none⟩) L.length cap) L := by
  refine ⟨_, cap, rfl, fun k hk => ?_⟩
  obtain ⟨u, h1, h2, -⟩ := h.inn k hk
  exact ⟨gl, 0, u, rfl, by rw [Nat.zero_add, h.row.cellAt k (by omega)]; exact h1, h2⟩
theorem RdII.put {w : World} {B gl cap : Nat} {vs : List Value} {L : List (List Int)} (h : RdII w B gl cap vs L) {i : Nat} (hi : i < L.length) {u' : Value} {l' : List Int} (hI : IsI w u' l') (hn : NotAt gl u') : RdII (w.setCell ⟨gl, i, none⟩ u') B gl cap (vs.set i u') (L.set i l') := by
  have hl : vs.length = L.length := by have := h.row.1; omega
  refine ⟨by rw [List.length_set]; exact (h.row.stored i u').1, fun k hk => ?_⟩
  rw [List.length_set] at hk
  by_cases e : i = k
  · subst e
    exact ⟨u', by simp [hl, hi], by rw [List.getElem_set_self]; exact hI.notAt hn, hn⟩
  · obtain ⟨u, h1, h2, h3⟩ := h.inn k hk
    exact ⟨u, by rw [List.getElem?_set, if_neg e]; exact h1, by rw [List.getElem_set_ne e]; exact h2.notAt h3, h3⟩
/-- one put anew, behind what changes no other -/
theorem OwnII.put {w w3 : World} {B gl cap : Nat} {vs : List Value} {L : List (List Int)} (h : OwnII w B (.slice (some ⟨gl, 0, none⟩) L.length cap) vs L) {i : Nat} (hi : i < L.length) {u u' : Value} {l' : List Int} (hu : vs[i]? = some u)
    (hs : w.heap.size ≤ w3.heap.size) (hk : ∀ q, q < w.heap.size → some q ≠ u.ownBlock → w3.heap[q]? = w.heap[q]?) (hI : IsI w3 u' l') (hn : NotAt gl u') : RdII (w3.setCell ⟨gl, i, none⟩ u') B gl cap (vs.set i u') (L.set i l') := by
  have hl := h.len
  have hgl : gl < w.heap.size := (own_lt h.row).2
  have keep : ∀ {E : TypeId} {z m : Nat} {v : Value} {xs : List Value}, w.ownsRow B E z v m xs → (∀ q, v.ownBlock = some q → some q ≠ u.ownBlock) → w3.ownsRow B E z v m xs := by
    intro E z m v xs hr hne
    have hlt := hr.lt
    obtain ⟨h1, h2⟩ := hr
    refine ⟨h1, ?_⟩
    rcases h2 with h2 | ⟨g, cap, cur, hv, hB, hg, r⟩
    · exact .inl h2
    · have hq : v.ownBlock = some g := by rw [hv]; rfl
      exact .inr ⟨g, cap, cur, hv, hB, (hk g (hlt g hq).2 (hne g hq)).trans hg, r⟩
  have hrow := keep h.row (fun q hq e => by cases hq; exact h.off i u gl hu e.symm rfl)
  refine ⟨by rw [List.length_set]; exact (hrow.stored i u').1, fun k hk' => ?_⟩
  rw [List.length_set] at hk'
  by_cases e : i = k
  · subst e
    exact ⟨u', by simp [hl, hi], by rw [List.getElem_set_self]; exact hI.notAt hn, hn⟩
  · obtain ⟨x, h1, h2⟩ := h.inn k hk'
    have hx := keep h2 (fun q hq e2 => e (h.apart i k u x q hu h1 e2.symm hq))
    have hn2 : NotAt gl x := own_notAt (n := 0) h2 (fun q hq e2 => by subst e2; exact h.off k x q h1 hq rfl)
    exact ⟨x, by rw [List.getElem?_set, if_neg e]; exact h1, by rw [List.getElem_set_ne e]; exact (OwnI.reads hx).notAt hn2, hn2⟩
/-- the lists with one put anew are laid as what they are -/
theorem laid_is {st s' : LSt} {L : List (List Int)} (h : Rep s' L) (hn : s'.1.length = st.1.length) : laidS st.1.length L = s' := by
  refine (laid_rep (n := st.1.length) ?_).uniq h ((laidS_len _ _).1.trans hn.symm)
  rw [← hn]; exact rep_good h
end Go.Proofs.Ytkcenadenmkgnaa
