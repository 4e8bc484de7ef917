import Derived.Test.YtbobnfjbbablkabZN
namespace Go.Proofs.Ytbobnfjbbablkab
open Go.RowKit

theorem has_of {r : Rg} {x : List Nat} (h : isK x = true) : has r x = (decide (0 ≤ cmpB x r.lo) && (r.op || decide (cmpB x r.hi < 0))) := by unfold has; rw [h]; rfl
theorem grt_le {a b x : List Nat} : grt a b ≤ x ↔ a ≤ x ∧ b ≤ x := by
  unfold grt
  by_cases h : cmpB a b < 0
  · rw [if_pos h]
    have := cmpB_neg.1 h
    grind
  · rw [if_neg h]
    have : ¬ a < b := fun e => h (cmpB_neg.2 e)
    grind
theorem lt_lsr {a b x : List Nat} : x < lsr a b ↔ x < a ∧ x < b := by
  unfold lsr
  by_cases h : cmpB a b < 0
  · rw [if_pos h]
    have := cmpB_neg.1 h
    grind
  · rw [if_neg h]
    have : ¬ a < b := fun e => h (cmpB_neg.2 e)
    grind
theorem has_meet {r s : Rg} {x : List Nat} (h : isK x = true) : has (meet r s) x = (has r x && has s x) := by
  rw [Bool.eq_iff_iff, Bool.and_eq_true, has_iff, has_iff, has_iff]
  unfold meet
  dsimp only
  rw [grt_le]
  cases r.op <;> cases s.op <;> simp [h, lt_lsr] <;> grind
theorem has_above {p x : List Nat} (hp : B8 p) (hx : B8 x) (h : isK x = true) : has (above p) x = decide (common p x = p.length) := by
  rw [Bool.eq_iff_iff, has_iff, decide_eq_true_iff, common_prefix, ← beh_above p x hp hx]
  unfold above
  simp [h]
theorem has_splitL {r : Rg} {k x : List Nat} (h : isK x = true) : has (splitL r k) x = (has r x && decide (cmpB x k < 0)) := by
  unfold splitL
  rw [has_meet h, has_of (r := ⟨[], k, false⟩) h]
  have : 0 ≤ cmpB x [] := cmpB_ge.2 (by simp)
  simp [this]
theorem has_splitH {r : Rg} {k x : List Nat} (h : isK x = true) : has (splitH r k) x = (has r x && !decide (cmpB x k < 0)) := by
  unfold splitH
  rw [has_meet h, has_of (r := ⟨k, [], true⟩) h]
  simp only [Bool.true_or, Bool.and_true]
  congr 1
  by_cases h : cmpB x k < 0
  · simp [h]
  · simp [h]; omega
end Go.Proofs.Ytbobnfjbbablkab
