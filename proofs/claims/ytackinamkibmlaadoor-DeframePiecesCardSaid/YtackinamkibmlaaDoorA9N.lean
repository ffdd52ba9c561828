/- Layer 9: what is parsed, printed, and made bare again: mathematics. -/
import Derived.Test.YtackinamkibmlaaDoorA9M
namespace Go.Proofs.YtackinamkibmlaaDoor
open Go.RowKit
set_option linter.unusedVariables false
set_option linter.unusedSimpArgs false

theorem join_size (n h r : ByteArray) : (joinT n h r).size ≤ n.size + h.size + r.size + 2 := by
  rw [sz_list, join_list, sz_list n, sz_list h, sz_list r]
  split
  · simp; omega
  · simp; omega
theorem bare_size (n h : ByteArray) : (joinT n h ⟨#[]⟩).size = n.size + h.size + 1 := by
  rw [sz_list, join_list, sz_list n, sz_list h]
  rw [if_pos (show (⟨#[]⟩ : ByteArray).size = 0 from rfl)]
  simp
  omega
theorem pri_ok {n h r : ByteArray} (H : chkA n h r = 0) : priT n h r = joinT n h r := by
  unfold priT
  rw [H, me_yes]
/-- of a text that is an address, whose parts are a, b, c -/
theorem bare_ok {s : ByteArray} (h : parE s = 0) : barE s = 0 ∧ barT s = joinT (nmP s) (hsP s) ⟨#[]⟩ := by
  have hc := chk_bare (par_chk h)
  unfold barE barT
  rw [if_pos h, if_pos h]
  exact ⟨hc, pri_ok hc⟩
theorem bare_bare {a b c : ByteArray} (H : chkA a b c = 0) : parE (joinT a b ⟨#[]⟩) = 0 ∧ barE (joinT a b ⟨#[]⟩) = 0 ∧ barT (joinT a b ⟨#[]⟩) = joinT a b ⟨#[]⟩ ∧ isB (joinT a b ⟨#[]⟩) = true := by
  obtain ⟨h0, h1, h2, h3⟩ := par_join (chk_bare H)
  obtain ⟨k1, k2⟩ := bare_ok h0
  rw [h1, h2] at k2
  refine ⟨h0, k1, k2, ?_⟩
  unfold isB
  rw [k1, k2]
  simp
theorem full_ok {a b c : ByteArray} (H : chkA a b c = 0) : fulE (joinT a b ⟨#[]⟩) c = 0 ∧ fulT (joinT a b ⟨#[]⟩) c = joinT a b c := by
  obtain ⟨h0, h1, h2, h3⟩ := par_join (chk_bare H)
  unfold fulE fulT
  rw [if_pos h0, if_pos h0, h3, if_pos (show (⟨#[]⟩ : ByteArray).size = 0 from rfl), if_pos (show (⟨#[]⟩ : ByteArray).size = 0 from rfl), if_pos (res_ok H), if_pos (res_ok H), h1, h2]
  exact ⟨H, pri_ok H⟩
end Go.Proofs.YtackinamkibmlaaDoor
