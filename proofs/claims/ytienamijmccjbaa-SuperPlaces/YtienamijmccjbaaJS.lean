import Derived.Test.YtienamijmccjbaaJD
namespace Go.Proofs.Ytienamijmccjbaa
open Go.RowKit

/-! ### where a state lies: slots, banks, blocks -/
theorem and1_int (x : Int) : bits .and .i64 x 1 = x % 2 := by
  show IntKind.i64.wrap ((BitVec.ofInt 64 x &&& BitVec.ofInt 64 1).toNat : Int) = _
  have h1 : (BitVec.ofInt 64 1).toNat = 1 := by decide
  rw [BitVec.toNat_and, BitVec.toNat_ofInt, h1, Nat.and_one_is_mod, IntKind.wrap_i64]
  omega
theorem tmod2 {x : Int} : x.tmod 2 = 0 ↔ x % 2 = 0 := ⟨fun h => Int.emod_eq_zero_of_dvd (Int.dvd_of_tmod_eq_zero h), fun h => Int.tmod_eq_zero_of_dvd (Int.dvd_of_emod_eq_zero h)⟩
def slA (x : Int) : Int := if x % 2 = 0 then 0 else 1
set_option maxHeartbeats 400000 in
theorem Slot_any (w : World) (x : Int) : Calls Try.prog 14 #[.int .i64 x] w fun e w' => e = .returned (.int .i64 (slA x)) ∧ w' = w := by
  have ha := and1_int x
  unfold slA
  by_cases h0 : x % 2 = 0
  · rw [if_pos h0]
    rw [h0] at ha
    go_enter Try.func14, Try.ntmps14
    go_wp2
    go_ret
    exact ⟨rfl, rfl⟩
  · rw [if_neg h0]
    have h1 : x % 2 = 1 := by omega
    rw [h1] at ha
    go_enter Try.func14, Try.ntmps14
    go_wp2
    go_ret
    exact ⟨rfl, rfl⟩
set_option maxHeartbeats 400000 in
theorem rSlot_any (w : World) (x : Int) : Calls Try.prog 15 #[.int .i64 x] w fun e w' => e = .returned (.int .i64 (slA x)) ∧ w' = w := by
  unfold slA
  by_cases h0 : x % 2 = 0
  · rw [if_pos h0]
    have ht : x.tmod 2 = 0 := tmod2.2 h0
    clear h0
    go_enter Try.func15, Try.ntmps15
    go_wp2
    go_ret
    exact ⟨rfl, rfl⟩
  · rw [if_neg h0]
    have ht' : ¬ x.tmod 2 = 0 := fun h => h0 (tmod2.1 h)
    have ht : (x.tmod 2 == 0) = false := by simpa using ht'
    clear h0
    go_enter Try.func15, Try.ntmps15
    go_wp2
    go_ret
    exact ⟨rfl, rfl⟩
def baA (k x : Int) : Int := if x = 0 then 2 else if x = 1 then wrap64 (2 + k) else 0
set_option maxHeartbeats 400000 in
theorem rBank_any (w : World) (p k f x : Int) : Calls Try.prog 17 #[plv p k f, .int .i64 x] w fun e w' => e = .returned (.int .i64 (baA k x)) ∧ Below w.heap.size w w' := by
  have HA := hide (al w (.cells #[.int .i64 p, .int .i64 k, .int .i64 f] 25))
  unfold plv baA
  by_cases h0 : x = 0
  · subst h0
    go_enter Try.func17, Try.ntmps17
    go_wp2
    go_ret
    exact ⟨rfl, HA.out⟩
  · by_cases h1 : x = 1
    · subst h1
      go_enter Try.func17, Try.ntmps17
      go_wp2
      all_goals
        go_ret
        exact ⟨rfl, HA.out⟩
    · rw [if_neg h0, if_neg h1]
      have h0' : (x == 0) = false := by simpa using h0
      have h1' : (x == 1) = false := by simpa using h1
      go_enter Try.func17, Try.ntmps17
      go_wp2
      go_ret
      exact ⟨rfl, HA.out⟩
set_option maxHeartbeats 800000 in
theorem rBlock_any (w : World) (p k f x : Int) : Calls Try.prog 13 #[plv p k f, .int .i64 x] w fun e w' => e = .returned (blA p f x) ∧ Below w.heap.size w w' := by
  unfold blA
  have HA := hide (al w (.cells #[.int .i64 p, .int .i64 k, .int .i64 f] 25))
  unfold plv at *
  by_cases h1 : x < 1
  · have hf : isF x 1 p = false := by unfold isF; simp; omega
    rw [hf]
    clear hf
    have hd : decide (x < 1) = true := decide_eq_true h1
    go_enter Try.func13, Try.ntmps13
    go_wp2
    go_ret2
    exact ⟨rfl, HA.out⟩
  · have hd : decide (x < 1) = false := decide_eq_false h1
    by_cases h2 : p < x
    · have hf : isF x 1 p = false := by unfold isF; simp; omega
      rw [hf]
      clear hf
      have hd2 : decide (p < x) = true := decide_eq_true h2
      go_enter Try.func13, Try.ntmps13
      go_wp2
      go_ret2
      exact ⟨rfl, HA.out⟩
    · have hf : isF x 1 p = true := by unfold isF; simp; omega
      rw [hf]
      clear hf
      have hd2 : decide (p < x) = false := decide_eq_false h2
      go_enter Try.func13, Try.ntmps13
      go_wp2
      go_ret2
      exact ⟨rfl, HA.out⟩
end Go.Proofs.Ytienamijmccjbaa
