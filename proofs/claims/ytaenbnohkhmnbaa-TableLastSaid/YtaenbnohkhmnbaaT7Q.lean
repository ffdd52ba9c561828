/- Layer 7: plain: what a closed gap leaves. -/
import Derived.Test.YtaenbnohkhmnbaaT7P
namespace Go.Proofs.Ytaenbnohkhmnbaa
set_option linter.unusedVariables false
set_option linter.unusedSimpArgs false

/-- amid the closing of a gap: what stands beside the gap -/
structure Gapped (N : Nat) (c : Nat → Sl) (gp a e0 : Nat) : Prop where
  hg : gp < N
  ha : a < N
  he : e0 < N
  e0n : c e0 = none
  gs : (c gp).isSome = true
  ne : 0 < dist N gp a
  le : dist N gp a ≤ dist N gp e0
  run : ∀ x, x < N → x ≠ gp → dist N gp x < dist N gp a → c x ≠ none
  uniq : Uniq N (upd c gp none)
  reach : ∀ i, i < N → ∀ e : Ent, upd c gp none i = some e → ∀ x, x < N → x ≠ gp → dist N (ow N e.1) x < dist N (ow N e.1) i → c x ≠ none
  done : ∀ i, i < N → ∀ e : Ent, upd c gp none i = some e → dist N gp i < dist N gp a → dist N (ow N e.1) i < dist N gp i
theorem Gapped.hgn {N : Nat} {c : Nat → Sl} {gp a e0 : Nat} (H : Gapped N c gp a e0) : gp ≠ e0 := by
  intro e; have := H.gs; rw [e, H.e0n] at this; cases this
theorem Gapped.agp {N : Nat} {c : Nat → Sl} {gp a e0 : Nat} (H : Gapped N c gp a e0) : a ≠ gp := by
  intro e; have := H.ne; rw [e, dist_self] at this; omega
/-- what is left is a good row of slots without the gap -/
structure Closed (N : Nat) (c : Nat → Sl) (gp : Nat) (c' : Nat → Sl) (g' : Nat) : Prop where
  hg : g' < N
  uniq : Uniq N (upd c' g' none)
  reach : Reach N (upd c' g' none)
  cnt : (entsL (upd c' g' none) N).length = (entsL (upd c gp none) N).length
  has : ∀ k v, Has N (upd c' g' none) k v ↔ Has N (upd c gp none) k v
theorem upd_some {c : Nat → Sl} {gp i : Nat} {e : Ent} (h : upd c gp none i = some e) : i ≠ gp ∧ c i = some e := by
  unfold upd at h; split at h
  · cases h
  · exact ⟨by assumption, h⟩
theorem Gapped.end {N : Nat} {c : Nat → Sl} {gp a e0 : Nat} (H : Gapped N c gp a e0) (hc : c a = none) : Closed N c gp c gp := by
  refine ⟨H.hg, H.uniq, fun i hi e hce x hx hd => ?_, rfl, fun _ _ => Iff.rfl⟩
  obtain ⟨hig, hci⟩ := upd_some hce
  have hN0 : 0 < N := by omega
  have ho := ow_lt hN0 e.1
  by_cases ex : x = gp
  · exfalso
    subst ex
    have ht := dist_tri ho hx hi (by omega)
    by_cases hlt : dist N x i < dist N x a
    · have := H.done i hi e hce hlt; omega
    · have hia : dist N x i ≠ dist N x a := fun h => by
        have := dist_inj hx hi H.ha h
        rw [this, hc] at hci; cases hci
      have ht2 : dist N (ow N e.1) a < dist N (ow N e.1) i := by
        have h1 := dist_spec N (ow N e.1) x
        have h2 := dist_spec N (ow N e.1) i
        have h3 := dist_spec N x i
        have h4 := dist_spec N x a
        have h5 := dist_spec N (ow N e.1) a
        have := H.ha
        omega
      exact H.reach i hi e hce a H.ha H.agp ht2 hc
  · rw [upd_other _ _ _ ex]
    exact H.reach i hi e hce x hx ex hd
theorem Gapped.skip {N : Nat} {c : Nat → Sl} {gp a e0 : Nat} {e : Ent} (H : Gapped N c gp a e0) (hc : c a = some e) (hd : dist N (ow N e.1) a < dist N gp a) : Gapped N c gp (nxt N a) e0 := by
  have hae : a ≠ e0 := by rintro rfl; rw [H.e0n] at hc; cases hc
  have hlt : dist N gp a ≠ dist N gp e0 := fun h => hae (dist_inj H.hg H.ha H.he h)
  have hle := H.le
  have h0 := dist_lt H.hg H.he
  have hs := dist_step H.hg H.ha (by omega)
  refine { H with ha := nxt_lt H.ha, ne := by omega, le := by omega, run := fun x hx hxg h => ?_, done := fun i hi f hf h => ?_ }
  · by_cases ex : dist N gp x = dist N gp a
    · rw [dist_inj H.hg hx H.ha ex, hc]; simp
    · exact H.run x hx hxg (by omega)
  · by_cases ex : dist N gp i = dist N gp a
    · have := dist_inj H.hg hi H.ha ex
      subst this
      obtain ⟨-, hci⟩ := upd_some hf
      rw [hc] at hci; cases hci
      exact hd
    · exact H.done i hi f hf (by omega)
theorem Gapped.move {N : Nat} {c : Nat → Sl} {gp a e0 : Nat} {e : Ent} (H : Gapped N c gp a e0) (hN : 2 ≤ N) (hc : c a = some e) (hd : ¬ dist N (ow N e.1) a < dist N gp a) : Gapped N (upd c gp (some e)) a (nxt N a) e0 := by
  have hae : a ≠ e0 := by rintro rfl; rw [H.e0n] at hc; cases hc
  have hag := H.agp
  have hge := H.hgn
  have ho := ow_lt (show 0 < N by omega) e.1
  have h1 : dist N a (nxt N a) = 1 := by have := dist_step H.ha H.ha (by rw [dist_self]; omega); rw [dist_self] at this; exact this
  have hdae : dist N a e0 ≠ 0 := fun h => hae (dist_zero H.ha H.he h).symm
  have hVa : upd c gp none a = some e := by rw [upd_other _ _ _ hag]; exact hc
  have hV : ∀ i f, upd (upd c gp (some e)) a none i = some f → i ≠ a ∧ ((i = gp ∧ f = e) ∨ (i ≠ gp ∧ upd c gp none i = some f)) := fun i f h => by
    obtain ⟨hia, h⟩ := upd_some h
    refine ⟨hia, ?_⟩
    by_cases ei : i = gp
    · rw [ei, upd_same] at h; cases h; exact .inl ⟨ei, rfl⟩
    · rw [upd_other _ _ _ ei] at h
      exact .inr ⟨ei, by rw [upd_other _ _ _ ei]; exact h⟩
  refine ⟨H.ha, nxt_lt H.ha, H.he, ?_, ?_, by omega, by omega, ?_, ?_, ?_, ?_⟩
  · rw [upd_other _ _ _ (Ne.symm hge)]; exact H.e0n
  · rw [upd_other _ _ _ hag, hc]; rfl
  · intro x hx hxa h
    exact absurd (dist_zero H.ha hx (by omega)) hxa
  · intro i j hi hj f f' hf hf' heq
    obtain ⟨hia, hi'⟩ := hV i f hf
    obtain ⟨hja, hj'⟩ := hV j f' hf'
    rcases hi' with ⟨rfl, rfl⟩ | ⟨hig, hif⟩
    · rcases hj' with ⟨rfl, -⟩ | ⟨hjg, hjf⟩
      · rfl
      · exact absurd (H.uniq a j H.ha hj _ _ hVa hjf heq).symm hja
    · rcases hj' with ⟨rfl, rfl⟩ | ⟨hjg, hjf⟩
      · exact absurd (H.uniq i a hi H.ha _ _ hif hVa heq) hia
      · exact H.uniq i j hi hj _ _ hif hjf heq
  · intro i hi f hf x hx hxa hdx
    by_cases exg : x = gp
    · rw [exg, upd_same]; simp
    · rw [upd_other _ _ _ exg]
      obtain ⟨hia, hi'⟩ := hV i f hf
      rcases hi' with ⟨rfl, rfl⟩ | ⟨hig, hif⟩
      · have ht := dist_tri' ho H.hg H.ha (by omega)
        exact H.reach a H.ha _ hVa x hx exg (by omega)
      · exact H.reach i hi f hif x hx exg hdx
  · intro i hi f hf h
    obtain ⟨hia, -⟩ := hV i f hf
    exact absurd (dist_zero H.ha hi (by omega)) hia
theorem move_has {N : Nat} {c : Nat → Sl} {gp a : Nat} {e : Ent} (hg : gp < N) (ha : a < N) (hag : a ≠ gp) (hc : c a = some e) (k : ByteArray) (v : Int) :
    Has N (upd (upd c gp (some e)) a none) k v ↔ Has N (upd c gp none) k v := by
  constructor
  · rintro ⟨i, hi, h⟩
    obtain ⟨hia, h⟩ := upd_some h
    by_cases ei : i = gp
    · rw [ei, upd_same] at h
      exact ⟨a, ha, by rw [upd_other _ _ _ hag, hc]; exact h⟩
    · rw [upd_other _ _ _ ei] at h
      exact ⟨i, hi, by rw [upd_other _ _ _ ei]; exact h⟩
  · rintro ⟨i, hi, h⟩
    obtain ⟨hig, h⟩ := upd_some h
    by_cases ei : i = a
    · rw [ei, hc] at h
      exact ⟨gp, hg, by rw [upd_other _ _ _ (Ne.symm hag), upd_same]; exact h⟩
    · exact ⟨i, hi, by rw [upd_other _ _ _ ei, upd_other _ _ _ hig]; exact h⟩
theorem move_cnt {N : Nat} {c : Nat → Sl} {gp a : Nat} {e : Ent} (hg : gp < N) (ha : a < N) (hag : a ≠ gp) (hc : c a = some e) (hgs : (c gp).isSome = true) :
    (entsL (upd (upd c gp (some e)) a none) N).length = (entsL (upd c gp none) N).length := by
  have h1 := entsL_upd (upd c gp (some e)) none a N ha
  have h2 := entsL_upd c (some e) gp N hg
  have h3 := entsL_upd c none gp N hg
  rw [upd_other _ _ _ hag, hc] at h1
  cases hcg : c gp with
  | none => rw [hcg] at hgs; cases hgs
  | some f =>
    rw [hcg] at h2 h3
    simp only [one] at h1 h2 h3
    omega
theorem closeF_good {N : Nat} (hN : 2 ≤ N) {e0 : Nat} : ∀ (d : Nat) (c : Nat → Sl) (gp a : Nat), Gapped N c gp a e0 → dist N a e0 = d → ∃ c' g', closeF N (d + 1) c gp a = some (c', g') ∧ Closed N c gp c' g' := by
  intro d
  induction d with
  | zero =>
    intro c gp a H hd
    have := dist_zero H.ha H.he hd
    subst this
    exact ⟨c, gp, by rw [closeF, H.e0n], H.end H.e0n⟩
  | succ d ih =>
    intro c gp a H hd
    cases hc : c a with
    | none => exact ⟨c, gp, by rw [closeF, hc], H.end hc⟩
    | some e =>
      have hae : a ≠ e0 := by rintro rfl; rw [H.e0n] at hc; cases hc
      have hdn : dist N (nxt N a) e0 = d := by have := dist_nxt H.ha H.he hae; omega
      by_cases hl : dist N (ow N e.1) a < dist N gp a
      · obtain ⟨c', g', h1, h2⟩ := ih c gp (nxt N a) (H.skip hc hl) hdn
        exact ⟨c', g', by rw [closeF, hc]; dsimp only; rw [if_pos hl]; exact h1, h2⟩
      · obtain ⟨c', g', h1, h2⟩ := ih (upd c gp (some e)) a (nxt N a) (H.move hN hc hl) hdn
        refine ⟨c', g', by rw [closeF, hc]; dsimp only; rw [if_neg hl]; exact h1, h2.hg, h2.uniq, h2.reach, ?_, fun k v => ?_⟩
        · rw [h2.cnt]; exact move_cnt H.hg H.ha H.agp hc H.gs
        · rw [h2.has]; exact move_has H.hg H.ha H.agp hc k v

/-- a key that was found goes -/
theorem Good.del {N K : Nat} {c : Nat → Sl} (H : Good N c K) {k : ByteArray} {F r : Nat} (hf : findF c N k F (ow N k) = some (r, true)) :
    ∃ F2 c' g' e0, e0 < N ∧ c e0 = none ∧ 1 ≤ K ∧ closeF N F2 c r (nxt N r) = some (c', g') ∧ Good N (upd c' g' none) (K - 1) ∧ (∀ v, ¬ Has N (upd c' g' none) k v) ∧ ∀ k' v', k' ≠ k → (Has N (upd c' g' none) k' v' ↔ Has N c k' v') := by
  obtain ⟨e0, he, hc0⟩ := H.gap
  obtain ⟨hr, -, h3⟩ := findF_spec F _ (H.own k) hf
  obtain ⟨e, hce, hek⟩ : ∃ e, c r = some e ∧ e.1 = k := by
    rcases h3 with ⟨-, h⟩ | ⟨h, -⟩
    · exact h
    · cases h
  have hN := H.hN.1
  have hd1 : dist N r (nxt N r) = 1 := by have := dist_step hr hr (by rw [dist_self]; omega); rw [dist_self] at this; exact this
  have hre : r ≠ e0 := by rintro rfl; rw [hc0] at hce; cases hce
  have hdr : dist N r e0 ≠ 0 := fun h => hre (dist_zero hr he h).symm
  have G : Gapped N c r (nxt N r) e0 := by
    refine ⟨hr, nxt_lt hr, he, hc0, by rw [hce]; rfl, by omega, by omega, ?_, ?_, ?_, ?_⟩
    · intro x hx hxr h
      exact absurd (dist_zero hr hx (by omega)) hxr
    · intro i j hi hj f f' hf hf' heq
      exact H.uniq i j hi hj f f' (upd_some hf).2 (upd_some hf').2 heq
    · intro i hi f hf x hx _ hd
      exact H.reach i hi f (upd_some hf).2 x hx hd
    · intro i hi f hf h
      exact absurd (dist_zero hr hi (by omega)) (upd_some hf).1
  obtain ⟨c', g', hcl, C⟩ := closeF_good hN _ c r (nxt N r) G rfl
  have hcnt : (entsL (upd c r none) N).length = K - 1 ∧ 1 ≤ K := by
    have h := entsL_upd c none r N hr
    rw [hce] at h
    simp only [one] at h
    have := H.cnt
    omega
  have hhas : ∀ k' v', Has N (upd c r none) k' v' ↔ (k' ≠ k ∧ Has N c k' v') := by
    intro k' v'
    constructor
    · rintro ⟨i, hi, h⟩
      obtain ⟨hir, h⟩ := upd_some h
      refine ⟨fun hk => hir ?_, i, hi, h⟩
      exact H.uniq i r hi hr _ _ h hce (by rw [hek]; exact hk)
    · rintro ⟨hk, i, hi, h⟩
      refine ⟨i, hi, ?_⟩
      rw [upd_other _ _ _ (by rintro rfl; rw [hce] at h; cases h; exact hk hek)]
      exact h
  refine ⟨_, c', g', e0, he, hc0, hcnt.2, hcl, ⟨H.hN, C.uniq, C.reach, by rw [C.cnt]; exact hcnt.1, by have := H.room; omega⟩, fun v h => ?_, fun k' v' hk => ?_⟩
  · exact ((hhas k v).1 ((C.has k v).1 h)).1 rfl
  · rw [C.has, hhas]; exact ⟨fun h => h.2, fun h => ⟨hk, h⟩⟩
theorem good_new (N : Nat) (h : 2 ≤ N ∧ N ≤ 256) : Good N noSl 0 :=
  ⟨h, fun i j _ _ e f hc => by simp at hc, fun i _ e hc => by simp at hc, by
    have : ∀ M, (entsL noSl M).length = 0 := by
      intro M
      induction M with
      | zero => rfl
      | succ M ih => rw [entsL_len_succ, ih]; rfl
    exact this N, Nat.zero_le _⟩
theorem has_new (N : Nat) (k : ByteArray) (v : Int) : ¬ Has N noSl k v := by
  rintro ⟨i, _, h⟩; simp at h
end Go.Proofs.Ytaenbnohkhmnbaa
