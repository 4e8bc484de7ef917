import Derived.Test.YtceeeofkigkpkaaEY
namespace Go.Proofs.Ytceeeofkigkpkaa
set_option linter.unusedVariables false
open Go.RowKit

/-! ### PoolBack -/
theorem Po.counts_len (P : Po) : P.counts.length = P.pg.length := by unfold Po.counts; rw [List.length_map]
theorem count_at {P : Po} {n : Nat} (h1 : 1 ≤ n) (h2 : n ≤ P.pg.length) : P.count (n : Int) = (P.at n).1 := by
  unfold Po.count Po.at
  rw [if_pos (Po.has_iff.2 ⟨by omega, by omega⟩), show ((n : Int) - 1).toNat = n - 1 by omega]
theorem inc_dec {P : Po} (h : P.Ok) {z : Int} (h0 : P.count z ≠ 0) (h1 : P.count z ≠ P.rf) : (P.inc z).1 = 0 ∧ ((P.inc z).2.dec z).1.1 = P.count z ∧ ((P.inc z).2.dec z).1.2 = 0 ∧ ((P.inc z).2.dec z).2.pg = P.pg ∧ ((P.inc z).2.dec z).2.mark = P.mark + 2 ∧ (P.inc z).2.mark = P.mark + 1 := by
  obtain ⟨z1, z2⟩ := Po.count_has h0
  obtain ⟨n, rfl⟩ : ∃ n : Nat, z = (n : Int) := ⟨z.toNat, by omega⟩
  have e : P.inc n = (0, P.act n (P.count n + 1)) := by unfold Po.inc; rw [if_neg h0, if_neg h1, Int.toNat_natCast]
  have hn : n - 1 < P.pg.length := by omega
  have hk := h.count (n : Int)
  have hc : P.count n = (P.at n).1 := count_at (by omega) (by omega)
  generalize P.count (n : Int) = c at *
  have ha : (P.act n (c + 1)).at n = (c + 1, (P.at n).2) := by
    show (P.pg.set (n - 1) _).getD (n - 1) Pg.zero = _
    rw [List.getD_eq_getElem?_getD, List.getElem?_set_self hn]; rfl
  have hl : (P.act n (c + 1)).pg.length = P.pg.length := List.length_set
  have hc2 : (P.act n (c + 1)).count n = c + 1 := by rw [count_at (by omega) (by rw [hl]; omega), ha]
  have e2 : (P.act n (c + 1)).dec n = ((c, 0), (P.act n (c + 1)).act n c) := by
    unfold Po.dec
    rw [hc2, if_neg (by omega), Int.toNat_natCast, show c + 1 - 1 = c by omega]
  rw [e]
  show _ ∧ ((P.act n (c + 1)).dec n).1.1 = c ∧ ((P.act n (c + 1)).dec n).1.2 = 0 ∧ ((P.act n (c + 1)).dec n).2.pg = P.pg ∧ ((P.act n (c + 1)).dec n).2.mark = P.mark + 2 ∧ (P.act n (c + 1)).mark = P.mark + 1
  rw [e2]
  refine ⟨rfl, rfl, rfl, ?_, ?_, Po.act_mark _ _ _⟩
  · show (P.pg.set (n - 1) _).set (n - 1) (c, ((P.act n (c + 1)).at n).2) = P.pg
    rw [ha, hc]
    exact set_at (by omega) (by omega) _
  · show ((P.act n (c + 1)).act n c).mark = _
    rw [Po.act_mark, Po.act_mark]
theorem inc_no {P : Po} {z : Int} (h : P.count z = 0 ∨ P.count z = P.rf) : ((P.inc z).1 = 15 ∨ (P.inc z).1 = 13) ∧ (P.inc z).2 = P := by
  unfold Po.inc
  by_cases h0 : P.count z = 0
  · rw [if_pos h0]; exact ⟨.inl rfl, rfl⟩
  · rw [if_neg h0, if_pos (h.resolve_left h0)]; exact ⟨.inr rfl, rfl⟩
theorem state_pg {P Q : Po} (h : P.pg = Q.pg) (z : Int) : P.state z = Q.state z := by unfold Po.state Po.has; rw [h]
theorem count_pg {P Q : Po} (h : P.pg = Q.pg) (z : Int) : P.count z = Q.count z := by unfold Po.count Po.has; rw [h]
theorem counts_pg {P Q : Po} (h : P.pg = Q.pg) : P.counts = Q.counts := by unfold Po.counts; rw [h]
theorem Np.off {w w1 : World} {b : Nat} {P : Po} {col : Nat → Nat} (h : Np w w1 b P col) {k : Nat} (hk : w1.heap.size ≤ k) : col k = 0 := by
  by_cases e : col k = 0
  · exact e
  · have := h.p.lt k e; omega
end Go.Proofs.Ytceeeofkigkpkaa
