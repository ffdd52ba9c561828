/- Layer 3: an append onto a row of the call's own, of any number of elements, at a step of a region that draws its order. -/
import Derived.Test.YtmnlpmfkoammhaaP5R
import Derived.Deep.AppendLies
import Derived.Deep.RegionLaw
namespace Go.Proofs.Ytmnlpmfkoammhaa
open Go.RowKit
set_option linter.unusedVariables false
set_option linter.unusedSimpArgs false

theorem step_append_own {P : Program} {w : World} {ops : Array Oper} {o : Oper} {a : Act} {K : Act → World → Prop} {Q : Exit → Act → World → Prop} {E : Prop} (hgd : o.guard = none) (s x : Operand) (t : TypeId)
    (ho : o.op = .call { callee := .builtin .append, args := #[s, x], argTypes := #[t, t] })
    (base : Nat) (e : TypeId) (i : TypeInfo) (z : Value) (size bytes : Nat) (ht : P.underlying t = some (.slice e)) (hi : P.info? e = some i) (hz : i.zero = some z)
    (hsize : i.size = size) (hby : i.bytes = bytes) (hzs : z.cells.size = size) (hsz : 0 < size)
    (v : Value) (n : Nat) (xs : List Value) (hs : a.eval s = v) (hown : w.ownsRow base e size v n xs)
    (ad : Addr) (m c : Nat) (news : List Value) (hx : a.eval x = .slice (some ad) m c) (hl : news.length = m * size) (hnews : ∀ j u, news[j]? = some u → w.cell? (ad.add j) = some u) (h1 : ∀ u ∈ news, u.oneCell' = true)
    (h63 : n + m ≤ maxLen) (hbytes : (n + m) * bytes ≤ 140737488355328) (hbase : base ≤ w.heap.size)
    (h : ∀ v' w', w'.ownsRow base e size v' (n + m) (xs ++ news) → w.grownBy w' v.ownBlock → K (a.put o.dst v') w') : if Region.wanted o (yielded ops a.tmps) = true then Oper.wp P o a w K Q else E := by
  have hw : Region.wanted o (yielded ops a.tmps) = true := by simp [Region.wanted, hgd]
  rw [if_pos hw]
  exact wp_append_own w s x t ho base e i z size bytes ht hi hz hsize hby hzs hsz v n xs hs hown ad m c news hx hl hnews h1 h63 hbytes hbase fun v' w' h2 h3 _ => h v' w' h2 h3
theorem cut_addr {w : World} {b off c t : Nat} {l : List Int} (h : IsI w (.slice (some ⟨b, off, none⟩) l.length c) l) (hc : l.length ≤ c) (ht : t < l.length) :
    ∃ A : Addr, (if c = t + 1 then (some ⟨b, off, none⟩ : Option Addr) else some ⟨b, off + (t + 1), none⟩) = some A ∧ ∀ j u, ((l.drop (t + 1)).map (Value.int .i64))[j]? = some u → w.cell? (A.add j) = some u := by
  by_cases hh : c = t + 1
  · refine ⟨⟨b, off, none⟩, by rw [if_pos hh], fun j u hu => ?_⟩
    have hj := (List.getElem?_eq_some_iff.1 hu).1
    rw [List.length_map, List.length_drop] at hj
    omega
  · refine ⟨⟨b, off + (t + 1), none⟩, by rw [if_neg hh], fun j u hu => ?_⟩
    have hj := (List.getElem?_eq_some_iff.1 hu).1
    rw [List.length_map, List.length_drop] at hj
    rw [List.getElem?_map, List.getElem?_drop] at hu
    rw [Addr.add_lit, Nat.add_assoc]
    exact rdI1 h (t + 1 + j) u (by rw [List.getElem?_map]; exact hu)
end Go.Proofs.Ytmnlpmfkoammhaa
