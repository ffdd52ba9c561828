/- Layer 5, the program's: contracts: wipe, Drop, Clear, Take, Last. -/
import Derived.Test.YtphgilgmoeliaaaF5B
namespace Go.Proofs.Ytphgilgmoeliaaa
open Go.RowKit
set_option linter.unusedVariables false
set_option linter.unusedSimpArgs false

theorem zeroInt (w : World) : (zeroValue 3).run Try.prog w = .ok (.int .i64 0) w := by kernel_rfl
theorem clear_run (W : World) (h o n cap : Nat) (ty : TypeId) (hc : ∀ j, j < n → (W.cell? ⟨h, o + j, none⟩).isSome = true) (hf : ∀ j, j < n → W.frozen? ⟨h, o + j, none⟩ = false) :
    (Builtin.clear_ #[28] ty #[.slice (some ⟨h, o, none⟩) n cap]).run Try.prog W = .ok (.tuple #[]) (W.setCells h o (List.replicate n (.int .i64 0))) := by
  rcases Nat.eq_zero_or_pos n with rfl | hn
  · simp [Builtin.clear_, run_underlying Try.underlying28]; rfl
  · exact Lib.run_clear_slice W 28 3 ty (.int .i64 0) Try.underlying28 zeroInt rfl rfl h o n cap hn hc hf

theorem wipe_two {w1 : World} {g h N f k : Nat} {c : Nat → Int} (H1 : Lie w1 g h N f k c) (m s r : Nat) (hs : m + s ≤ N) (hr : r ≤ N) :
    (∀ ty cap, (Builtin.clear_ #[28] ty #[.slice (some ⟨h, m, none⟩) s cap]).run Try.prog w1 = .ok (.tuple #[]) (w1.setCells h m (List.replicate s (.int .i64 0)))) ∧
    (w1.setCells h m (List.replicate s (.int .i64 0))).cell? ⟨g, 0, none⟩ = some (.slice (some ⟨h, 0, none⟩) N N) ∧
    (∀ ty cap, (Builtin.clear_ #[28] ty #[.slice (some ⟨h, 0, none⟩) r cap]).run Try.prog (w1.setCells h m (List.replicate s (.int .i64 0))) = .ok (.tuple #[]) ((w1.setCells h m (List.replicate s (.int .i64 0))).setCells h 0 (List.replicate r (.int .i64 0)))) ∧
    Lie ((w1.setCells h m (List.replicate s (.int .i64 0))).setCells h 0 (List.replicate r (.int .i64 0))) g h N f k (wiped (wiped c m s) 0 r) := by
  have H2 := H1.wipe m s hs
  refine ⟨fun ty cap => clear_run w1 h m s cap ty (fun j hj => by rw [H1.cs _ (by omega)]; rfl) (fun j _ => H1.fs _), H2.c0,
    fun ty cap => clear_run _ h 0 r cap ty (fun j hj => by rw [H2.cs _ (by omega)]; rfl) (fun j _ => H2.fs _), H2.wipe 0 r (by omega)⟩
set_option maxHeartbeats 1000000 in
theorem wipe_any (g h N f k : Nat) (c : Nat → Int) (i n : Nat) (w : World) (H : Lie w g h N f k c) (hi : i ≤ N) (hn : n ≤ N) :
    Calls Try.prog 32 #[ptrV g, .int .i64 i, .int .i64 n] w fun e w' => e = .returned (.tuple #[]) ∧
      Lie w' g h N f k (wiped (wiped c (cellN f N i) (min n (N - cellN f N i))) 0 (n - min n (N - cellN f N i))) ∧ But2 w w' g h := by
  have cc := cell_any g h N f k c i w H hi
  have hlt := cellN_lt H.hf hi
  have hN := H.hN
  have HC := Lib.hid H
  obtain ⟨m, hm⟩ : ∃ m, cellN f N i = m := ⟨_, rfl⟩
  rw [hm] at cc hlt ⊢
  clear H hm
  by_cases hle : n ≤ N - m
  · have hle' : (n : Int) ≤ (N : Int) - m := by omega
    have hgo := Lib.hid (show wiped (wiped c m (min n (N - m))) 0 (n - min n (N - m)) = wiped (wiped c m n) 0 0 by rw [Nat.min_eq_left hle, Nat.sub_self])
    have ht : ((m : Int) + n).toNat - m = n := by omega
    go_enter Try.func32, Try.ntmps32
    go_wp2_with fail
    refine cc.mono ?_; rintro e w1 ⟨rfl, hb1⟩
    have H1 := HC.out.call hb1
    have c0 := H1.c0
    obtain ⟨hcl1, d0, hcl2, HF⟩ := wipe_two H1 m n 0 (by omega) (by omega)
    have HF := Lib.hid HF
    clear H1
    go_wp2_with (simp only [ht, hcl1])
    go_wp2_with (simp only [hcl2])
    go_end0
    rw [hgo.out]
    exact ⟨rfl, HF.out, ((But2.below g h hb1).setCells _ _).setCells _ _⟩
  · have hle' : ¬ (n : Int) ≤ (N : Int) - m := by omega
    have hgo := Lib.hid (show wiped (wiped c m (min n (N - m))) 0 (n - min n (N - m)) = wiped (wiped c m (N - m)) 0 (n - (N - m)) by rw [Nat.min_eq_right (by omega)])
    have hle2 : ((N : Int) - m ≤ n) := by omega
    have ht : ((m : Int) + ((N : Int) - m)).toNat - m = N - m := by omega
    have ht1 : (N : Int).toNat - m = N - m := by omega
    have ht2 : ((n : Int) - ((N : Int) - m)).toNat = n - (N - m) := by omega
    go_enter Try.func32, Try.ntmps32
    go_wp2_with fail
    refine cc.mono ?_; rintro e w1 ⟨rfl, hb1⟩
    have H1 := HC.out.call hb1
    have c0 := H1.c0
    obtain ⟨hcl1, d0, hcl2, HF⟩ := wipe_two H1 m (N - m) (n - (N - m)) (by omega) (by omega)
    have HF := Lib.hid HF
    clear H1
    go_wp2_with (simp only [ht, ht1, hcl1])
    go_wp2_with (simp only [ht2, hcl2])
    go_end0
    rw [hgo.out]
    exact ⟨rfl, HF.out, ((But2.below g h hb1).setCells _ _).setCells _ _⟩
end Go.Proofs.Ytphgilgmoeliaaa
