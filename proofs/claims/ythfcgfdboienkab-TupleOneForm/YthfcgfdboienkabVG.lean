import Derived.Test.YthfcgfdboienkabVD
namespace Go.Proofs.Ythfcgfdboienkab
open Go.RowKit

theorem isNaNStr_any (w : World) (x : ByteArray) : Calls Try.prog 70 #[.string x] w fun e w' => e = .returned (.bool false) ∧ w' = w := by
  go_enter Try.func70, Try.ntmps70
  go_wp2
  go_ret
  exact ⟨by simp, rfl⟩
theorem isNaNInt_any (w : World) (x : Int) : Calls Try.prog 67 #[.int .i64 x] w fun e w' => e = .returned (.bool false) ∧ w' = w := by
  go_enter Try.func67, Try.ntmps67
  go_wp2
  go_ret
  exact ⟨by simp, rfl⟩
theorem isNaNI64_any (w : World) (x : Int) : Calls Try.prog 68 #[.int .i64 x] w fun e w' => e = .returned (.bool false) ∧ w' = w := by
  go_enter Try.func68, Try.ntmps68
  go_wp2
  go_ret
  exact ⟨by simp, rfl⟩
theorem isNaNU64_any (w : World) (x : Int) : Calls Try.prog 69 #[.int .u64 x] w fun e w' => e = .returned (.bool false) ∧ w' = w := by
  go_enter Try.func69, Try.ntmps69
  go_wp2
  go_ret
  exact ⟨by simp, rfl⟩
theorem cmpInt_any (w : World) (x y : Int) : Calls Try.prog 50 #[.int .i64 x, .int .i64 y] w fun e w' => e = .returned (.int .i64 (cmpZ x y)) ∧ w' = w := by
  have N := hide isNaNInt_any
  by_cases h1 : x < y
  · rw [show cmpZ x y = -1 by unfold cmpZ; rw [if_pos h1]]
    go_enter Try.func50, Try.ntmps50
    go_wp2_with fail
    refine (N.out _ _).mono ?_
    rintro e w1 ⟨rfl, rfl⟩
    go_wp2_with fail
    refine (N.out _ _).mono ?_
    rintro e w1 ⟨rfl, rfl⟩
    go_wp2
    go_ret
    exact ⟨rfl, rfl⟩
  · by_cases h2 : y < x
    · rw [show cmpZ x y = 1 by unfold cmpZ; rw [if_neg h1, if_pos h2]]
      go_enter Try.func50, Try.ntmps50
      go_wp2_with fail
      refine (N.out _ _).mono ?_
      rintro e w1 ⟨rfl, rfl⟩
      go_wp2_with fail
      refine (N.out _ _).mono ?_
      rintro e w1 ⟨rfl, rfl⟩
      go_wp2
      go_ret
      exact ⟨rfl, rfl⟩
    · rw [show cmpZ x y = 0 by unfold cmpZ; rw [if_neg h1, if_neg h2]]
      go_enter Try.func50, Try.ntmps50
      go_wp2_with fail
      refine (N.out _ _).mono ?_
      rintro e w1 ⟨rfl, rfl⟩
      go_wp2_with fail
      refine (N.out _ _).mono ?_
      rintro e w1 ⟨rfl, rfl⟩
      go_wp2
      go_ret
      exact ⟨rfl, rfl⟩
theorem cmpI64_any (w : World) (x y : Int) : Calls Try.prog 52 #[.int .i64 x, .int .i64 y] w fun e w' => e = .returned (.int .i64 (cmpZ x y)) ∧ w' = w := by
  have N := hide isNaNI64_any
  by_cases h1 : x < y
  · rw [show cmpZ x y = -1 by unfold cmpZ; rw [if_pos h1]]
    go_enter Try.func52, Try.ntmps52
    go_wp2_with fail
    refine (N.out _ _).mono ?_
    rintro e w1 ⟨rfl, rfl⟩
    go_wp2_with fail
    refine (N.out _ _).mono ?_
    rintro e w1 ⟨rfl, rfl⟩
    go_wp2
    go_ret
    exact ⟨rfl, rfl⟩
  · by_cases h2 : y < x
    · rw [show cmpZ x y = 1 by unfold cmpZ; rw [if_neg h1, if_pos h2]]
      go_enter Try.func52, Try.ntmps52
      go_wp2_with fail
      refine (N.out _ _).mono ?_
      rintro e w1 ⟨rfl, rfl⟩
      go_wp2_with fail
      refine (N.out _ _).mono ?_
      rintro e w1 ⟨rfl, rfl⟩
      go_wp2
      go_ret
      exact ⟨rfl, rfl⟩
    · rw [show cmpZ x y = 0 by unfold cmpZ; rw [if_neg h1, if_neg h2]]
      go_enter Try.func52, Try.ntmps52
      go_wp2_with fail
      refine (N.out _ _).mono ?_
      rintro e w1 ⟨rfl, rfl⟩
      go_wp2_with fail
      refine (N.out _ _).mono ?_
      rintro e w1 ⟨rfl, rfl⟩
      go_wp2
      go_ret
      exact ⟨rfl, rfl⟩
theorem cmpU64_any (w : World) (x y : Int) : Calls Try.prog 53 #[.int .u64 x, .int .u64 y] w fun e w' => e = .returned (.int .i64 (cmpZ x y)) ∧ w' = w := by
  have N := hide isNaNU64_any
  by_cases h1 : x < y
  · rw [show cmpZ x y = -1 by unfold cmpZ; rw [if_pos h1]]
    go_enter Try.func53, Try.ntmps53
    go_wp2_with fail
    refine (N.out _ _).mono ?_
    rintro e w1 ⟨rfl, rfl⟩
    go_wp2_with fail
    refine (N.out _ _).mono ?_
    rintro e w1 ⟨rfl, rfl⟩
    go_wp2
    go_ret
    exact ⟨rfl, rfl⟩
  · by_cases h2 : y < x
    · rw [show cmpZ x y = 1 by unfold cmpZ; rw [if_neg h1, if_pos h2]]
      go_enter Try.func53, Try.ntmps53
      go_wp2_with fail
      refine (N.out _ _).mono ?_
      rintro e w1 ⟨rfl, rfl⟩
      go_wp2_with fail
      refine (N.out _ _).mono ?_
      rintro e w1 ⟨rfl, rfl⟩
      go_wp2
      go_ret
      exact ⟨rfl, rfl⟩
    · rw [show cmpZ x y = 0 by unfold cmpZ; rw [if_neg h1, if_neg h2]]
      go_enter Try.func53, Try.ntmps53
      go_wp2_with fail
      refine (N.out _ _).mono ?_
      rintro e w1 ⟨rfl, rfl⟩
      go_wp2_with fail
      refine (N.out _ _).mono ?_
      rintro e w1 ⟨rfl, rfl⟩
      go_wp2
      go_ret
      exact ⟨rfl, rfl⟩
theorem and_sign (b : Nat) (hb : b < 18446744073709551616) : bits .and .u64 (b : Int) 9223372036854775808 = if 9223372036854775808 ≤ b then 9223372036854775808 else 0 := by
  have h := u64_and_nat b 9223372036854775808 hb (by decide)
  rw [show (9223372036854775808 : Nat) = 2 ^ 63 from rfl, nat_bit] at h
  refine h.trans ?_
  split
  · rw [show b / 2 ^ 63 = 1 by omega]; rfl
  · rw [show b / 2 ^ 63 = 0 by omega]; rfl
theorem or_sign (b : Nat) (hb : b < 9223372036854775808) : bits .or .u64 (b : Int) 9223372036854775808 = ((b + 9223372036854775808 : Nat) : Int) := by
  have h := u64_or_nat b 9223372036854775808 (by omega) (by decide)
  rw [Nat.or_comm, nat_join 63 9223372036854775808 b (by decide) hb, Nat.add_comm] at h
  exact h
theorem not64 (y : Nat) (hy : y < 18446744073709551616) : bits .xor .u64 18446744073709551615 (y : Int) = 18446744073709551615 - (y : Int) := by
  have e : BitVec.ofInt 64 18446744073709551615 = BitVec.allOnes 64 := by decide
  have h : bits .xor .u64 18446744073709551615 (y : Int) = ((BitVec.ofInt 64 18446744073709551615 ^^^ BitVec.ofInt 64 (y : Int)).toNat : Int) % 18446744073709551616 := by
    unfold bits
    simp only [IntKind.bits, IntKind.wrap, IntKind.signed]
    rfl
  rw [h, e, BitVec.allOnes_xor, BitVec.toNat_not, ofInt_u64 y hy]
  omega
theorem rank_any (w : World) (x : Nat) (hx : x < 18446744073709551616) : Calls Try.prog 48 #[.float .f64 x] w fun e w' => e = .returned (.int .u64 (rank x : Int)) ∧ w' = w := by
  have R := hide (oneNaN_any w x)
  have F := call_f64bits
  have ho := one_lt hx
  have ha := and_sign (one x) ho
  have us : IntKind.u64.signed = false := rfl
  have um : IntKind.u64.max = 18446744073709551615 := by decide
  unfold rank
  by_cases h : 9223372036854775808 ≤ one x
  · rw [if_pos h] at ha ⊢
    rw [show ((18446744073709551615 - one x : Nat) : Int) = 18446744073709551615 - (one x : Int) by omega]
    have hnt := not64 (one x) ho
    generalize one x = y at *
    go_enter Try.func48, Try.ntmps48
    go_wp2_with fail
    refine R.out.mono ?_
    rintro e w1 ⟨rfl, rfl⟩
    go_wp2
    go_ret
    exact ⟨by simp, rfl⟩
  · rw [if_neg h] at ha ⊢
    have hor := or_sign (one x) (by omega)
    generalize one x = y at *
    go_enter Try.func48, Try.ntmps48
    go_wp2_with fail
    refine R.out.mono ?_
    rintro e w1 ⟨rfl, rfl⟩
    go_wp2
    go_ret
    exact ⟨by simp, rfl⟩
theorem compareBools_any (w : World) (x y : Bool) : Calls Try.prog 51 #[.bool x, .bool y] w fun e w' => e = .returned (.int .i64 (cmpBool x y)) ∧ w' = w := by
  cases x <;> cases y
  all_goals (go_enter Try.func51, Try.ntmps51; go_wp2; go_ret; exact ⟨rfl, rfl⟩)
theorem shr63 (x : Nat) (hx : x < 18446744073709551616) : (x : Int) / 9223372036854775808 = if 9223372036854775808 ≤ x then 1 else 0 := by split <;> omega
theorem bytesLess_cmp : ∀ (a b : List UInt8), Op.bytesLess a b = decide (cmpB (a.map UInt8.toNat) (b.map UInt8.toNat) = -1)
  | [], [] => rfl
  | [], _ :: _ => rfl
  | _ :: _, [] => rfl
  | x :: xs, y :: ys => by
    have ih := bytesLess_cmp xs ys
    simp only [List.map_cons, cmpB]
    unfold Op.bytesLess
    rw [ih]
    by_cases h1 : x.toNat < y.toNat
    · have : x < y := UInt8.lt_iff_toNat_lt.2 h1
      simp [h1, this]
    · have n1 : ¬ x < y := fun h => h1 (UInt8.lt_iff_toNat_lt.1 h)
      by_cases h2 : y.toNat < x.toNat
      · have e : ¬ x = y := fun h => by subst h; omega
        simp [h1, n1, h2, e]
      · have e : x = y := UInt8.toNat.inj (by omega)
        simp [e]
theorem str_less (x y : ByteArray) : Op.bytesLess x.toList y.toList = decide (cmpB (tl x) (tl y) = -1) := by
  rw [ByteArray.toList_eq, ByteArray.toList_eq]
  exact bytesLess_cmp _ _
theorem str_eq (x y : ByteArray) : (x.toList == y.toList) = decide (cmpB (tl x) (tl y) = 0) := by
  rw [ByteArray.toList_eq, ByteArray.toList_eq, Bool.eq_iff_iff, beq_iff_eq, decide_eq_true_iff, cmpB_zero]
  exact ⟨fun h => by unfold tl; rw [h], fun h => by rw [tl_inj h]⟩
theorem cmpB_tri (a b : List Nat) : cmpB a b = -1 ∨ cmpB a b = 0 ∨ cmpB a b = 1 := by
  induction a generalizing b with
  | nil => cases b <;> simp [cmpB]
  | cons x a ih =>
    cases b with
    | nil => simp [cmpB]
    | cons y b =>
      simp only [cmpB]
      split
      · exact .inl rfl
      · split
        · exact .inr (.inr rfl)
        · exact ih b
theorem cmpStr_any (w : World) (x y : ByteArray) : Calls Try.prog 54 #[.string x, .string y] w fun e w' => e = .returned (.int .i64 (cmpB (tl x) (tl y))) ∧ w' = w := by
  have N := hide isNaNStr_any
  have hl := str_less x y
  have he := str_eq x y
  rcases cmpB_tri (tl x) (tl y) with h | h | h
  · rw [h] at hl he ⊢
    have hl : Op.bytesLess x.toList y.toList = true := hl
    have he : (x.toList == y.toList) = false := he
    clear h
    go_enter Try.func54, Try.ntmps54
    go_wp2_with fail
    refine (N.out _ _).mono ?_
    rintro e w1 ⟨rfl, rfl⟩
    go_wp2_with fail
    refine (N.out _ _).mono ?_
    rintro e w1 ⟨rfl, rfl⟩
    go_wp2
    go_ret
    exact ⟨rfl, rfl⟩
  · rw [h] at hl he ⊢
    have hl : Op.bytesLess x.toList y.toList = false := hl
    have he : (x.toList == y.toList) = true := he
    clear h
    go_enter Try.func54, Try.ntmps54
    go_wp2_with fail
    refine (N.out _ _).mono ?_
    rintro e w1 ⟨rfl, rfl⟩
    go_wp2_with fail
    refine (N.out _ _).mono ?_
    rintro e w1 ⟨rfl, rfl⟩
    go_wp2
    go_ret
    exact ⟨rfl, rfl⟩
  · rw [h] at hl he ⊢
    have hl : Op.bytesLess x.toList y.toList = false := hl
    have he : (x.toList == y.toList) = false := he
    clear h
    go_enter Try.func54, Try.ntmps54
    go_wp2_with fail
    refine (N.out _ _).mono ?_
    rintro e w1 ⟨rfl, rfl⟩
    go_wp2_with fail
    refine (N.out _ _).mono ?_
    rintro e w1 ⟨rfl, rfl⟩
    go_wp2
    go_ret
    exact ⟨rfl, rfl⟩
end Go.Proofs.Ythfcgfdboienkab
