/- Layer 10: two stanzas held together. -/
import Derived.Test.YtackinamkibmlaaDoorS10P
import Derived.Test.YtackinamkibmlaaDoorA9F
import Derived.Laws.StructEq
namespace Go.Proofs.YtackinamkibmlaaDoor
open Go.RowKit
set_option linter.unusedVariables false
set_option linter.unusedSimpArgs false

/-- are two stanzas one? -/
def sameS (x y : St) : Bool := decide (x.k = y.k) && (decide (x.u = y.u) && (decide (x.r = y.r) && (decide (x.m = y.m) && (decide (x.s = y.s) && (decide (x.p = y.p) && (decide (x.c = y.c) && decide (x.n = y.n)))))))
theorem sameS_iff {x y : St} : sameS x y = true ↔ x = y := by
  unfold sameS
  simp only [Bool.and_eq_true, decide_eq_true_eq]
  constructor
  · rintro ⟨h1, h2, h3, h4, h5, h6, h7, h8⟩
    cases x; cases y
    simp only at h1 h2 h3 h4 h5 h6 h7 h8
    subst h1 h2 h3 h4 h5 h6 h7 h8
    rfl
  · rintro rfl
    simp
instance stDec : DecidableEq St := fun x y => if h : sameS x y = true then isTrue (sameS_iff.1 h) else isFalse (fun e => h (sameS_iff.2 e))
theorem sameS_refl (x : St) : sameS x x = true := sameS_iff.2 rfl
theorem sameS_eq (x y : St) : sameS x y = decide (x = y) := by
  rw [Bool.eq_iff_iff, sameS_iff, decide_eq_true_iff]
/-- no text of a stanza is great -/
def Sml (x : St) : Prop := x.u.size ≤ 1000000 ∧ x.r.size ≤ 1000000 ∧ x.m.size ≤ 1000000
theorem sml_nil (k : UInt8) : Sml (St.nil k) := ⟨Nat.zero_le _, Nat.zero_le _, Nat.zero_le _⟩
theorem extra_zero {x : St} (h : extraB x = false) {c : Lt} (hc : c ∉ hasL x.k.toNat) : zeroF x c = true := (extra_iff.1 h c).resolve_right hc
theorem sml_ok {x : St} (h : chkS x = 0) : Sml x := by
  obtain ⟨_, h2, _, h4, h5, h6⟩ := chkS_ok h
  have hr := resE_size h6
  refine ⟨?_, by omega, by omega⟩
  by_cases hu : Lt.lu ∈ hasL x.k.toNat
  · have := isB_size (h5 hu)
    omega
  · have := extra_zero h2 hu
    simp only [zeroF, decide_eq_true_eq] at this
    omega
theorem sml_read (b : ByteArray) : Sml (rdS b) := by
  by_cases h : rdE b = 0
  · exact sml_ok (put_read h).1
  · rw [rdS_no h]
    exact sml_nil 0
/-- block b holds a stanza -/
def Bx8 (w : World) (b : Nat) (x : St) : Prop :=
  w.cell? ⟨b, 0, none⟩ = some (.int .u8 (x.k.toNat : Int)) ∧ w.cell? ⟨b, 1, none⟩ = some (.string x.u) ∧ w.cell? ⟨b, 2, none⟩ = some (.string x.r) ∧ w.cell? ⟨b, 3, none⟩ = some (.string x.m) ∧
  w.cell? ⟨b, 4, none⟩ = some (.int .i64 x.s) ∧ w.cell? ⟨b, 5, none⟩ = some (.int .i64 x.p) ∧ w.cell? ⟨b, 6, none⟩ = some (.int .i64 x.c) ∧ w.cell? ⟨b, 7, none⟩ = some (.int .i64 x.n)
theorem Bx8.lt {w : World} {b : Nat} {x : St} (h : Bx8 w b x) : b < w.heap.size := World.block_lt_of_cell? _ _ h.1
theorem Bx8.call {W w1 : World} {b : Nat} {x : St} (h : Bx8 W b x) (hb : Below W.heap.size W w1) : Bx8 w1 b x := by
  have hl := h.lt
  have k := fun o => hb.cell (p := ⟨b, o, none⟩) hl
  obtain ⟨h0, h1, h2, h3, h4, h5, h6, h7⟩ := h
  exact ⟨(k 0).trans h0, (k 1).trans h1, (k 2).trans h2, (k 3).trans h3, (k 4).trans h4, (k 5).trans h5, (k 6).trans h6, (k 7).trans h7⟩
theorem k_beq (a b : UInt8) : (((a.toNat : Int)) == ((b.toNat : Int))) = decide (a = b) := by
  rw [Bool.eq_iff_iff, beq_iff_eq, decide_eq_true_iff]
  constructor
  · intro h
    exact UInt8.toNat_inj.1 (by omega)
  · rintro rfl
    rfl
theorem eq_stz (x y : St) (W : World) : (binOp .eql 40 (stzV x) (stzV y)).run Tryd.prog W = .ok (.bool (sameS x y)) W := by
  have hS : Tryd.prog.underlying 40 = some (.struct (Tryd.prog.fieldsOf 40)) := by kernel_rfl
  have hp : Tryd.prog.stoodInHeld 40 = false := by kernel_rfl
  have kk : ((x.k.toNat : Int) = (y.k.toNat : Int)) = (x.k = y.k) := propext ⟨fun h => UInt8.toNat_inj.1 (by omega), fun h => by rw [h]⟩
  have kl : ∀ a b : ByteArray, (a.toList = b.toList) = (a = b) := fun a b => propext ⟨list_inj, fun h => by rw [h]⟩
  simp only [stzV]
  rw [run_eql_struct, show (10000 : Nat) = 9999 + 1 from rfl, run_equalIn_agg W 9999 40 _ _ hS hp]
  simp only [Program.fieldsOf, Tryd.underlying40]
  go_simp
  (try simp only [kk, kl])
  unfold sameS
  by_cases e0 : x.k = y.k
  · rw [if_pos e0, decide_eq_true e0, Bool.true_and]
    by_cases e1 : x.u = y.u
    · rw [if_pos e1, decide_eq_true e1, Bool.true_and]
      by_cases e2 : x.r = y.r
      · rw [if_pos e2, decide_eq_true e2, Bool.true_and]
        by_cases e3 : x.m = y.m
        · rw [if_pos e3, decide_eq_true e3, Bool.true_and]
          by_cases e4 : x.s = y.s
          · rw [if_pos e4, decide_eq_true e4, Bool.true_and]
            by_cases e5 : x.p = y.p
            · rw [if_pos e5, decide_eq_true e5, Bool.true_and]
              by_cases e6 : x.c = y.c
              · rw [if_pos e6, decide_eq_true e6, Bool.true_and]
                by_cases e7 : x.n = y.n
                · rw [if_pos e7, decide_eq_true e7]
                  try rfl
                · rw [if_neg e7, decide_eq_false e7]
                  try rfl
              · rw [if_neg e6, decide_eq_false e6]
                try rfl
            · rw [if_neg e5, decide_eq_false e5]
              try rfl
          · rw [if_neg e4, decide_eq_false e4]
            try rfl
        · rw [if_neg e3, decide_eq_false e3]
          try rfl
      · rw [if_neg e2, decide_eq_false e2]
        try rfl
    · rw [if_neg e1, decide_eq_false e1]
      try rfl
  · rw [if_neg e0, decide_eq_false e0]
    try rfl
theorem neq_stz (x y : St) (W : World) : (binOp .neq 40 (stzV x) (stzV y)).run Tryd.prog W = .ok (.bool (!sameS x y)) W := by
  have hS : Tryd.prog.underlying 40 = some (.struct (Tryd.prog.fieldsOf 40)) := by kernel_rfl
  have hp : Tryd.prog.stoodInHeld 40 = false := by kernel_rfl
  have kk : ((x.k.toNat : Int) = (y.k.toNat : Int)) = (x.k = y.k) := propext ⟨fun h => UInt8.toNat_inj.1 (by omega), fun h => by rw [h]⟩
  have kl : ∀ a b : ByteArray, (a.toList = b.toList) = (a = b) := fun a b => propext ⟨list_inj, fun h => by rw [h]⟩
  simp only [stzV]
  rw [run_neq_struct, show (10000 : Nat) = 9999 + 1 from rfl, run_equalIn_agg W 9999 40 _ _ hS hp]
  simp only [Program.fieldsOf, Tryd.underlying40]
  go_simp
  (try simp only [kk, kl])
  unfold sameS
  by_cases e0 : x.k = y.k
  · rw [if_pos e0, decide_eq_true e0, Bool.true_and]
    by_cases e1 : x.u = y.u
    · rw [if_pos e1, decide_eq_true e1, Bool.true_and]
      by_cases e2 : x.r = y.r
      · rw [if_pos e2, decide_eq_true e2, Bool.true_and]
        by_cases e3 : x.m = y.m
        · rw [if_pos e3, decide_eq_true e3, Bool.true_and]
          by_cases e4 : x.s = y.s
          · rw [if_pos e4, decide_eq_true e4, Bool.true_and]
            by_cases e5 : x.p = y.p
            · rw [if_pos e5, decide_eq_true e5, Bool.true_and]
              by_cases e6 : x.c = y.c
              · rw [if_pos e6, decide_eq_true e6, Bool.true_and]
                by_cases e7 : x.n = y.n
                · rw [if_pos e7, decide_eq_true e7]
                  try rfl
                · rw [if_neg e7, decide_eq_false e7]
                  try rfl
              · rw [if_neg e6, decide_eq_false e6]
                try rfl
            · rw [if_neg e5, decide_eq_false e5]
              try rfl
          · rw [if_neg e4, decide_eq_false e4]
            try rfl
        · rw [if_neg e3, decide_eq_false e3]
          try rfl
      · rw [if_neg e2, decide_eq_false e2]
        try rfl
    · rw [if_neg e1, decide_eq_false e1]
      try rfl
  · rw [if_neg e0, decide_eq_false e0]
    try rfl
end Go.Proofs.YtackinamkibmlaaDoor
