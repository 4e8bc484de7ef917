import Derived.Test.YtkhdbeambmfdfaaM
import Derived.Laws.BitsAllLaws
import Derived.WalkKit
namespace Go.Proofs.Ytkhdbeambmfdfaa
open Go.RowKit

theorem xor32 (a b : Nat) (ha : a < 4294967296) (hb : b < 4294967296) : bits .xor .u32 (a : Int) (b : Int) = ((a ^^^ b : Nat) : Int) := u32_xor_nat a b ha hb
theorem and1_32 (s k : Nat) (hs : s < 4294967296) : bits .and .u32 ((s : Int) / 2 ^ k) 1 = ((s / 2 ^ k % 2 : Nat) : Int) := by
  have e : ((s : Int) / 2 ^ k) = ((s / 2 ^ k : Nat) : Int) := by simp
  have hlt : s / 2 ^ k < 4294967296 := Nat.lt_of_le_of_lt (Nat.div_le_self _ _) hs
  have h := u32_and_nat (s / 2 ^ k) 1 hlt (by decide)
  rw [M.and1] at h
  rw [e]
  exact h
theorem shr_succ (s k : Nat) : ((s : Int) / 2 ^ k / 2) = ((s / 2 ^ (k + 1) : Nat) : Int) := by
  have e : ((s : Int) / 2 ^ k) = ((s / 2 ^ k : Nat) : Int) := by simp
  rw [e, Nat.pow_succ, ← Nat.div_div_eq_div_mul]
  simp
theorem int_eq {k : IntKind} {a b : Int} (h : a = b) : Value.int k a = .int k b := by rw [h]
theorem ret_int {k : IntKind} {a b : Int} (h : a = b) : Ending.returned (.int k a) = .returned (.int k b) := by rw [h]
theorem odd_of {s k : Nat} (hs : s < 4294967296) (h : (bits BinOp.and IntKind.u32 ((s : Int) / 2 ^ k) 1 == 1) = true) : s / 2 ^ k % 2 = 1 := by
  rw [and1_32 s k hs, beq_iff_eq] at h; omega
theorem even_of {s k : Nat} (hs : s < 4294967296) (h : (bits BinOp.and IntKind.u32 ((s : Int) / 2 ^ k) 1 == 1) = false) : ¬ s / 2 ^ k % 2 = 1 := by
  rw [and1_32 s k hs, beq_eq_false_iff_ne] at h; omega
theorem tm_odd {m : Nat → Nat} {s k : Nat} (h : s / 2 ^ k % 2 = 1) : M.tmTo m s (k + 1) = M.tmTo m s k ^^^ m k := by
  show M.tmTo m s k ^^^ _ = _; rw [if_pos h]
theorem tm_even {m : Nat → Nat} {s k : Nat} (h : ¬ s / 2 ^ k % 2 = 1) : M.tmTo m s (k + 1) = M.tmTo m s k := by
  show M.tmTo m s k ^^^ _ = _; rw [if_neg h, Nat.xor_zero]
end Go.Proofs.Ytkhdbeambmfdfaa
