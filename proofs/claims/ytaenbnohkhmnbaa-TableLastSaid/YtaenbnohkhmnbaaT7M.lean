/- Layer 7: plain: slots, what is found, what a closed gap leaves. -/
import Derived.Test.YtaenbnohkhmnbaaT7H
namespace Go.Proofs.Ytaenbnohkhmnbaa
set_option linter.unusedVariables false
set_option linter.unusedSimpArgs false

abbrev Ent := ByteArray × Int
abbrev Sl := Option Ent
def keyO : Sl → ByteArray | some e => e.1 | none => ⟨#[]⟩
def valO : Sl → Int | some e => e.2 | none => 0
/-- one slot is another -/
def upd (c : Nat → Sl) (i : Nat) (x : Sl) : Nat → Sl := fun j => if j = i then x else c j
theorem upd_same (c : Nat → Sl) (i : Nat) (x : Sl) : upd c i x i = x := by unfold upd; simp
theorem upd_other (c : Nat → Sl) (i : Nat) (x : Sl) {j : Nat} (h : j ≠ i) : upd c i x j = c j := by unfold upd; simp [h]
/-- the slot behind -/
def nxt (N a : Nat) : Nat := if a + 1 = N then 0 else a + 1
theorem nxt_lt {N a : Nat} (h : a < N) : nxt N a < N := by unfold nxt; split <;> omega
theorem nxt_mod {N a : Nat} (h : a < N) : (a + 1) % N = nxt N a := by
  unfold nxt
  split
  · rename_i e; rw [e]; exact Nat.mod_self N
  · exact Nat.mod_eq_of_lt (by omega)
theorem nxt_emod {N a : Nat} (h : a < N) : ((a : Int) + 1) % N = (nxt N a : Nat) := by
  rw [← nxt_mod h, Int.natCast_emod, Int.natCast_add]; rfl
theorem nxt_tmod {N a : Nat} (h : a < N) : Int.tmod ((a : Int) + 1) N = (nxt N a : Nat) := by
  rw [Int.tmod_eq_emod_of_nonneg (by omega), nxt_emod h]
/-- how many steps from a slot on to another -/
def dist (N a b : Nat) : Nat := if a ≤ b then b - a else b + N - a
theorem dist_spec (N a b : Nat) : (a ≤ b ∧ dist N a b = b - a) ∨ (b < a ∧ dist N a b = b + N - a) := by
  unfold dist; split <;> omega
theorem dist_lt {N a b : Nat} (ha : a < N) (hb : b < N) : dist N a b < N := by
  have := dist_spec N a b; omega
theorem dist_emod {N a b : Nat} (ha : a < N) (hb : b < N) : ((b : Int) - a + N) % N = (dist N a b : Nat) := by
  rcases dist_spec N a b with ⟨h, e⟩ | ⟨h, e⟩
  · rw [e, show (b : Int) - a + N = ((b - a : Nat) : Int) + N by omega, Int.add_emod_right]
    exact Int.emod_eq_of_lt (by omega) (by omega)
  · rw [e, show (b : Int) - a + N = ((b + N - a : Nat) : Int) by omega]
    exact Int.emod_eq_of_lt (by omega) (by omega)
theorem dist_tmod {N a b : Nat} (ha : a < N) (hb : b < N) : Int.tmod ((b : Int) - a + N) N = (dist N a b : Nat) := by
  rw [Int.tmod_eq_emod_of_nonneg (by omega), dist_emod ha hb]

/-- where a key stands, or would stand, from a slot on -/
def findF (c : Nat → Sl) (N : Nat) (k : ByteArray) : Nat → Nat → Option (Nat × Bool)
  | 0, _ => none
  | f + 1, a => match c a with
    | none => some (a, false)
    | some e => if e.1 = k then some (a, true) else findF c N k f (nxt N a)
/-- what a closed gap leaves: the slots, and the gap that is left at last -/
def closeF (N : Nat) : Nat → (Nat → Sl) → Nat → Nat → Option ((Nat → Sl) × Nat)
  | 0, _, _, _ => none
  | f + 1, c, gap, a => match c a with
    | none => some (c, gap)
    | some e => if dist N (ow N e.1) a < dist N gap a then closeF N f c gap (nxt N a) else closeF N f (upd c gap (some e)) a (nxt N a)
end Go.Proofs.Ytaenbnohkhmnbaa
