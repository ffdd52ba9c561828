/- Layer 7: plain: what is found is what stands there; what a closed gap leaves. -/
import Derived.Test.YtaenbnohkhmnbaaT7E
import Derived.Test.YtaenbnohkhmnbaaT7T
namespace Go.Proofs.Ytaenbnohkhmnbaa
set_option linter.unusedVariables false
set_option linter.unusedSimpArgs false

theorem dist_self (N a : Nat) : dist N a a = 0 := by unfold dist; rw [if_pos (Nat.le_refl _)]; omega
theorem dist_inj {N a x y : Nat} (ha : a < N) (hx : x < N) (hy : y < N) (h : dist N a x = dist N a y) : x = y := by
  have h1 := dist_spec N a x
  have h2 := dist_spec N a y
  omega
theorem dist_zero {N a x : Nat} (ha : a < N) (hx : x < N) (h : dist N a x = 0) : x = a := by
  have h1 := dist_spec N a x
  omega
theorem dist_tri {N o g i : Nat} (ho : o < N) (hg : g < N) (hi : i < N) (h : dist N o g ≤ dist N o i) : dist N o i = dist N o g + dist N g i := by
  have h1 := dist_spec N o g
  have h2 := dist_spec N o i
  have h3 := dist_spec N g i
  omega
theorem dist_tri' {N o g i : Nat} (ho : o < N) (hg : g < N) (hi : i < N) (h : dist N g i ≤ dist N o i) : dist N o i = dist N o g + dist N g i := by
  have h1 := dist_spec N o g
  have h2 := dist_spec N o i
  have h3 := dist_spec N g i
  omega
theorem dist_step {N g a : Nat} (hg : g < N) (ha : a < N) (h : dist N g a + 1 < N) : dist N g (nxt N a) = dist N g a + 1 := by
  have h1 := dist_spec N g a
  have h2 := dist_spec N g (nxt N a)
  unfold nxt at h2 ⊢
  split at h2 <;> rename_i e
  · rw [if_pos e]; omega
  · rw [if_neg e]; omega

/-- each key stands once -/
def Uniq (N : Nat) (c : Nat → Sl) : Prop := ∀ i j, i < N → j < N → ∀ e f : Ent, c i = some e → c j = some f → e.1 = f.1 → i = j
/-- each stands from its own slot on, and none between has none -/
def Reach (N : Nat) (c : Nat → Sl) : Prop := ∀ i, i < N → ∀ e : Ent, c i = some e → ∀ x, x < N → dist N (ow N e.1) x < dist N (ow N e.1) i → c x ≠ none
structure Good (N : Nat) (c : Nat → Sl) (K : Nat) : Prop where
  hN : 2 ≤ N ∧ N ≤ 256
  uniq : Uniq N c
  reach : Reach N c
  cnt : (entsL c N).length = K
  room : K ≤ N * 3 / 4
/-- a key has a value -/
def Has (N : Nat) (c : Nat → Sl) (k : ByteArray) (v : Int) : Prop := ∃ i, i < N ∧ c i = some (k, v)

def one (x : Sl) : Nat := match x with | some _ => 1 | none => 0
theorem entsL_len_succ (c : Nat → Sl) (k : Nat) : (entsL c (k + 1)).length = (entsL c k).length + one (c k) := by
  rw [entsL_succ]; unfold one; cases c k <;> simp
theorem entsL_congr {c d : Nat → Sl} {k : Nat} (h : ∀ i, i < k → c i = d i) : entsL c k = entsL d k := by
  induction k with
  | zero => rfl
  | succ k ih => rw [entsL_succ, entsL_succ, ih (fun i hi => h i (by omega)), h k (by omega)]
theorem entsL_upd (c : Nat → Sl) (x : Sl) (i : Nat) : ∀ N, i < N → (entsL (upd c i x) N).length + one (c i) = (entsL c N).length + one x
  | 0, h => by omega
  | N + 1, h => by
    rw [entsL_len_succ, entsL_len_succ]
    by_cases e : i = N
    · subst e
      rw [upd_same, entsL_congr (c := upd c i x) (d := c) (fun j hj => upd_other c i x (by omega))]; omega
    · have := entsL_upd c x i N (by omega)
      rw [upd_other c i x (show N ≠ i by omega)]; omega
theorem full_len (c : Nat → Sl) : ∀ N, (∀ i, i < N → c i ≠ none) → (entsL c N).length = N
  | 0, _ => rfl
  | N + 1, h => by
    rw [entsL_len_succ, full_len c N (fun i hi => h i (by omega))]
    have := h N (by omega)
    cases hc : c N with
    | none => exact absurd hc this
    | some e => rfl
theorem some_none {c : Nat → Sl} {N : Nat} (h : (entsL c N).length < N) : ∃ e, e < N ∧ c e = none := by
  by_cases hx : ∃ e, e < N ∧ c e = none
  · exact hx
  · exact absurd (full_len c N (fun i hi hc => hx ⟨i, hi, hc⟩)) (by omega)
theorem Good.gap {N K : Nat} {c : Nat → Sl} (H : Good N c K) : ∃ e, e < N ∧ c e = none := some_none (by have := H.cnt; have := H.room; have := H.hN; omega)

theorem findF_spec {c : Nat → Sl} {N : Nat} {k : ByteArray} {r : Nat} {b : Bool} : ∀ (f a : Nat), a < N → findF c N k f a = some (r, b) →
    r < N ∧ (∀ x, x < N → dist N a x < dist N a r → ∃ e, c x = some e ∧ e.1 ≠ k) ∧ ((b = true ∧ ∃ e, c r = some e ∧ e.1 = k) ∨ (b = false ∧ c r = none))
  | 0, _, _, h => by simp [findF] at h
  | f + 1, a, ha, h => by
    cases hc : c a with
    | none =>
      have := findF_stop h hc; cases this
      exact ⟨ha, fun x hx hd => by rw [dist_self] at hd; omega, .inr ⟨rfl, hc⟩⟩
    | some e =>
      by_cases he : e.1 = k
      · have := findF_hit h hc he; cases this
        exact ⟨ha, fun x hx hd => by rw [dist_self] at hd; omega, .inl ⟨rfl, e, hc, he⟩⟩
      · obtain ⟨h1, h2, h3⟩ := findF_spec f (nxt N a) (nxt_lt ha) (findF_on h hc he)
        have hra : a ≠ r := by
          rintro rfl
          rcases h3 with ⟨-, e', hc', he'⟩ | ⟨-, hc'⟩
          · rw [hc] at hc'; cases hc'; exact he he'
          · rw [hc] at hc'; cases hc'
        refine ⟨h1, fun x hx hd => ?_, h3⟩
        by_cases hxa : a = x
        · subst hxa; exact ⟨e, hc, he⟩
        · have e1 := dist_nxt ha hx hxa
          have e2 := dist_nxt ha h1 hra
          exact h2 x hx (by omega)
theorem findF_ex {c : Nat → Sl} {N : Nat} (k : ByteArray) {e0 : Nat} (he : e0 < N) (hc0 : c e0 = none) : ∀ (d a : Nat), a < N → dist N a e0 = d → ∃ r b, findF c N k (d + 1) a = some (r, b) := by
  intro d
  induction d with
  | zero =>
    intro a ha hd
    have := dist_zero ha he hd
    subst this
    exact ⟨e0, false, by rw [findF, hc0]⟩
  | succ d ih =>
    intro a ha hd
    cases hc : c a with
    | none => exact ⟨a, false, by rw [findF, hc]⟩
    | some e =>
      by_cases hk : e.1 = k
      · exact ⟨a, true, by rw [findF, hc]; dsimp only; rw [if_pos hk]⟩
      · have hae : a ≠ e0 := by rintro rfl; rw [hc0] at hc; cases hc
        obtain ⟨r, b, h⟩ := ih (nxt N a) (nxt_lt ha) (by have := dist_nxt ha he hae; omega)
        exact ⟨r, b, by rw [findF, hc]; dsimp only; rw [if_neg hk]; exact h⟩
theorem Good.own {N K : Nat} {c : Nat → Sl} (H : Good N c K) (k : ByteArray) : ow N k < N := ow_lt (by have := H.hN; omega) k
theorem Good.find {N K : Nat} {c : Nat → Sl} (H : Good N c K) (k : ByteArray) : ∃ F r b, findF c N k F (ow N k) = some (r, b) := by
  obtain ⟨e0, he, hc⟩ := H.gap
  obtain ⟨r, b, h⟩ := findF_ex k he hc _ _ (H.own k) rfl
  exact ⟨_, r, b, h⟩
theorem Good.find_in {N K : Nat} {c : Nat → Sl} (H : Good N c K) {k : ByteArray} {v : Int} {i F r : Nat} {b : Bool} (hi : i < N) (hc : c i = some (k, v)) (hf : findF c N k F (ow N k) = some (r, b)) : r = i ∧ b = true := by
  obtain ⟨h1, h2, h3⟩ := findF_spec F _ (H.own k) hf
  rcases h3 with ⟨hb, e, he, hk⟩ | ⟨hb, he⟩
  · exact ⟨H.uniq r i h1 hi e (k, v) he hc hk, hb⟩
  · exfalso
    have hne : r ≠ i := by rintro rfl; rw [hc] at he; cases he
    have hlt : ¬ dist N (ow N k) r < dist N (ow N k) i := fun hd => H.reach i hi (k, v) hc r h1 hd he
    have hne2 : dist N (ow N k) r ≠ dist N (ow N k) i := fun hd => hne (dist_inj (H.own k) h1 hi hd)
    obtain ⟨e, he2, hk⟩ := h2 i hi (by omega)
    rw [hc] at he2; cases he2; exact hk rfl
theorem Good.find_has {N K : Nat} {c : Nat → Sl} (H : Good N c K) {k : ByteArray} {F r : Nat} {b : Bool} (hf : findF c N k F (ow N k) = some (r, b)) : b = true ↔ ∃ v, Has N c k v := by
  obtain ⟨h1, h2, h3⟩ := findF_spec F _ (H.own k) hf
  constructor
  · intro hb
    rcases h3 with ⟨-, e, he, hk⟩ | ⟨hb', -⟩
    · exact ⟨e.2, r, h1, by rw [he, ← hk]⟩
    · rw [hb] at hb'; cases hb'
  · rintro ⟨v, i, hi, hc⟩
    exact (H.find_in hi hc hf).2
theorem Good.find_val {N K : Nat} {c : Nat → Sl} (H : Good N c K) {k : ByteArray} {v : Int} {F r : Nat} {b : Bool} (hf : findF c N k F (ow N k) = some (r, b)) (hh : Has N c k v) : b = true ∧ valO (c r) = v := by
  obtain ⟨i, hi, hc⟩ := hh
  obtain ⟨rfl, hb⟩ := H.find_in hi hc hf
  exact ⟨hb, by rw [hc]; rfl⟩

/-- a slot that was found is set -/
theorem Good.set {N K : Nat} {c : Nat → Sl} (H : Good N c K) {k : ByteArray} (v : Int) {F r : Nat} {b : Bool} (hf : findF c N k F (ow N k) = some (r, b)) (hF : b = true ∨ fullP N K = false) :
    Good N (upd c r (some (k, v))) (setK c K r) ∧ Has N (upd c r (some (k, v))) k v ∧ ∀ k' v', k' ≠ k → (Has N (upd c r (some (k, v))) k' v' ↔ Has N c k' v') := by
  obtain ⟨h1, h2, h3⟩ := findF_spec F _ (H.own k) hf
  have hsome : ∀ i e, c i = some e → ∀ h : i ≠ r, upd c r (some (k, v)) i = some e := fun i e hc h => by rw [upd_other _ _ _ h]; exact hc
  have hold : ∀ i e, i < N → i ≠ r → upd c r (some (k, v)) i = some e → c i = some e ∧ e.1 ≠ k := fun i e hi hne hc => by
    rw [upd_other _ _ _ hne] at hc
    refine ⟨hc, fun hk => hne ?_⟩
    obtain ⟨rfl, -⟩ := H.find_in (k := k) (v := e.2) hi (by rw [hc, ← hk]) hf
    rfl
  refine ⟨⟨H.hN, ?_, ?_, ?_, ?_⟩, ⟨r, h1, upd_same _ _ _⟩, ?_⟩
  · intro i j hi hj e f hci hcj hef
    by_cases ei : i = r
    · by_cases ej : j = r
      · rw [ei, ej]
      · exfalso
        obtain ⟨-, hk⟩ := hold j f hj ej hcj
        rw [ei, upd_same] at hci; cases hci; exact hk hef.symm
    · obtain ⟨hci', hki⟩ := hold i e hi ei hci
      by_cases ej : j = r
      · exfalso; rw [ej, upd_same] at hcj; cases hcj; exact hki hef
      · obtain ⟨hcj', -⟩ := hold j f hj ej hcj
        exact H.uniq i j hi hj e f hci' hcj' hef
  · intro i hi e hc x hx hd
    by_cases ex : x = r
    · rw [ex, upd_same]; simp
    · rw [upd_other _ _ _ ex]
      by_cases ei : i = r
      · rw [ei, upd_same] at hc; cases hc
        rw [ei] at hd
        obtain ⟨e', he', -⟩ := h2 x hx hd
        rw [he']; simp
      · exact H.reach i hi e (hold i e hi ei hc).1 x hx hd
  · have h := entsL_upd c (some (k, v)) r N h1
    have hc := H.cnt
    unfold setK one at *
    cases hcr : c r with
    | none => rw [hcr] at h; simp at h ⊢; omega
    | some e => rw [hcr] at h; simp at h ⊢; omega
  · have hr := H.room
    unfold setK
    split
    · exact hr
    · rename_i hn
      have hb := findF_b F _ hf
      have : fullP N K = false := hF.resolve_left (fun hb' => hn (by rw [← hb, hb']))
      have : ¬ N * 3 / 4 ≤ K := by simpa [fullP] using this
      omega
  · intro k' v' hk
    constructor
    · rintro ⟨i, hi, hc⟩
      by_cases ei : i = r
      · rw [ei, upd_same] at hc; cases hc; exact absurd rfl hk
      · exact ⟨i, hi, (hold i _ hi ei hc).1⟩
    · rintro ⟨i, hi, hc⟩
      refine ⟨i, hi, hsome i _ hc ?_⟩
      rintro rfl
      rcases h3 with ⟨-, e, he, hke⟩ | ⟨-, he⟩
      · rw [hc] at he; cases he; exact hk hke
      · rw [hc] at he; cases he
end Go.Proofs.Ytaenbnohkhmnbaa
