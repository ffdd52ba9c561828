/- Layer 15, the program's (a wheel whose slots are maps): its contracts together. -/
import Derived.Test.YtcanaadcjipfjaaW15V
namespace Go.Proofs.Ytcanaadcjipfjaa
open Go.RowKit
set_option linter.unusedVariables false
set_option linter.unusedSimpArgs false

/-- a wheel is so, in the same blocks -/
theorem Did15.same {w w' : World} {C : Nat → Prop} {g s cap N : Nat} {ms : Nat → Nat} {now : Int} {l : List Du} (hC : ∀ b, C b ↔ (b = g ∨ b = s ∨ ∃ k, k < N ∧ b = ms k)) (H : LieAt w' g s cap ms N now l) (hW : GoodW l now) (hb : ButC (setC g s N ms) w w') : Did15 w w' C g N now l :=
  ⟨C, ⟨s, cap, ms, H, hW, hC⟩, fun b h => .inl h, hb.1, fun q hq hn => hb.2 q hq (fun h => hn ((hC q).2 h))⟩
theorem wnew_yes (N : Nat) (w : World) (h : 1 ≤ N ∧ N ≤ 32) : Calls Try.prog 8 #[.int .i64 N] w fun e w' => ∃ g C, e = .returned (.tuple #[ptrW g, .int .i64 0]) ∧ LieW w' C g N 0 [] ∧ (∀ b, C b → w.heap.size ≤ b) ∧ Below w.heap.size w w' := by
  refine (wnew_at N w h).mono ?_
  rintro e w' ⟨rfl, H, hb⟩
  exact ⟨_, setC (w.heap.size + 1) w.heap.size N (fun j => w.heap.size + 2 + j), rfl, ⟨_, _, _, H, good_nil, fun b => Iff.rfl⟩, (by
    rintro b (rfl | rfl | ⟨k, hk, rfl⟩)
    · omega
    · omega
    · show w.heap.size ≤ w.heap.size + 2 + k
      omega), hb⟩
section
variable (C : Nat → Prop) (g N : Nat) (now : Int) (l : List Du) (w : World) (H : LieW w C g N now l)
include H
theorem wset_any (id a : Int) (h1 : I64 id) (h2 : I64 a) : Calls Try.prog 17 #[ptrW g, .int .i64 id, .int .i64 a] w fun e w' => e = .returned (.int .i64 (setE now id a)) ∧ Did15 w w' C g N now (setW l now id a) := by
  obtain ⟨s, cap, ms, H, hW, hC⟩ := H
  refine (wset_at g s cap N ms now l w H hW id a h1 h2).mono ?_
  rintro e w' ⟨rfl, H', hb⟩
  exact ⟨rfl, Did15.same hC H' (good_set hW id a) hb⟩
theorem wstop_any (id : Int) (h1 : I64 id) : Calls Try.prog 10 #[ptrW g, .int .i64 id] w fun e w' => e = .returned (.bool (isW l id)) ∧ Did15 w w' C g N now (delW l id) := by
  obtain ⟨s, cap, ms, H, hW, hC⟩ := H
  refine (wstop_at g s cap N ms now l w H id h1).mono ?_
  rintro e w' ⟨rfl, H', hb⟩
  exact ⟨rfl, Did15.same hC H' (good_del hW id) hb⟩
theorem wgo_any (t2 : Int) (h1 : I64 t2) : Calls Try.prog 14 #[ptrW g, .int .i64 t2] w fun e w' => ∃ o, e = .returned o ∧ OwnR 62 2 duC w' w.heap.size o (goL l now t2) ∧ Did15 w w' C g N (goN now t2) (goW l now t2) := by
  obtain ⟨s, cap, ms, H, hW, hC⟩ := H
  refine (wgo_at g s cap N ms now l w H hW t2 h1).mono ?_
  rintro e w' ⟨o, rfl, ho, H', hb⟩
  exact ⟨o, rfl, ho, Did15.same hC H' (good_go hW t2) hb⟩
theorem wwhen_any (id : Int) (h1 : I64 id) : Calls Try.prog 21 #[ptrW g, .int .i64 id] w fun e w' => e = .returned (.tuple #[.int .i64 (whenW l id), .bool (isW l id)]) ∧ Below w.heap.size w w' := by
  obtain ⟨s, cap, ms, H, hW, hC⟩ := H
  exact wwhen_at g s cap N ms now l w H id h1
theorem wnext_any : Calls Try.prog 19 #[ptrW g] w fun e w' => e = .returned (.tuple #[.int .i64 (nextW l), .bool (decide (0 < l.length))]) ∧ Below w.heap.size w w' := by
  obtain ⟨s, cap, ms, H, hW, hC⟩ := H
  exact wnext_at g s cap N ms now l w H hW
theorem wlen_any : Calls Try.prog 24 #[ptrW g] w fun e w' => e = .returned (.int .i64 (l.length : Int)) ∧ Below w.heap.size w w' := by
  obtain ⟨s, cap, ms, H, hW, hC⟩ := H
  exact wlen_at g s cap N ms now l w H
theorem wnow_any : Calls Try.prog 25 #[ptrW g] w fun e w' => e = .returned (.int .i64 now) ∧ Below w.heap.size w w' := by
  obtain ⟨s, cap, ms, H, hW, hC⟩ := H
  exact wnow_at g s cap N ms now l w H
theorem wall_any : Calls Try.prog 23 #[ptrW g] w fun e w' => ∃ o, e = .returned o ∧ OwnR 62 2 duC w' w.heap.size o l ∧ Below w.heap.size w w' := by
  obtain ⟨s, cap, ms, H, hW, hC⟩ := H
  exact wall_at g s cap N ms now l w H hW
theorem wload_any : Calls Try.prog 27 #[ptrW g] w fun e w' => ∃ o, e = .returned o ∧ OwnI w' w.heap.size o (loadW N l) ∧ Below w.heap.size w w' := by
  obtain ⟨s, cap, ms, H, hW, hC⟩ := H
  exact wload_at g s cap N ms now l w H
end
end Go.Proofs.Ytcanaadcjipfjaa
