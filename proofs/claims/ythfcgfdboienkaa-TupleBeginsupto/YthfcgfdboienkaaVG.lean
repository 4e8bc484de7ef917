import Derived.Test.YthfcgfdboienkaaVD
namespace Go.Proofs.Ythfcgfdboienkaa
open Go.RowKit

theorem isNaNStr_any (w : World) (x : ByteArray) : Calls Try.prog 75 #[.string x] w fun e w' => e = .returned (.bool false) ∧ w' = w := by
  go_enter Try.func75, Try.ntmps75
  go_wp2
  go_ret
  exact ⟨by simp, rfl⟩
theorem isNaNInt_any (w : World) (x : Int) : Calls Try.prog 72 #[.int .i64 x] w fun e w' => e = .returned (.bool false) ∧ w' = w := by
  go_enter Try.func72, Try.ntmps72
  go_wp2
  go_ret
  exact ⟨by simp, rfl⟩
theorem isNaNI64_any (w : World) (x : Int) : Calls Try.prog 73 #[.int .i64 x] w fun e w' => e = .returned (.bool false) ∧ w' = w := by
  go_enter Try.func73, Try.ntmps73
  go_wp2
  go_ret
  exact ⟨by simp, rfl⟩
theorem isNaNU64_any (w : World) (x : Int) : Calls Try.prog 74 #[.int .u64 x] w fun e w' => e = .returned (.bool false) ∧ w' = w := by
  go_enter Try.func74, Try.ntmps74
  go_wp2
  go_ret
  exact ⟨by simp, rfl⟩
theorem cmpInt_any (w : World) (x y : Int) : Calls Try.prog 53 #[.int .i64 x, .int .i64 y] w fun e w' => e = .returned (.int .i64 (cmpZ x y)) ∧ w' = w := by
  have N := hide isNaNInt_any
  by_cases h1 : x < y
  · rw [show cmpZ x y = -1 by unfold cmpZ; rw [if_pos h1]]
    go_enter Try.func53, Try.ntmps53
    go_wp2_with fail
    refine (N.out _ _).mono ?_
    rintro e w1 ⟨rfl, rfl⟩
    go_wp2_with fail
    refine (N.out _ _).mono ?_
    rintro e w1 ⟨rfl, rfl⟩
    go_wp2
    go_ret
    exact ⟨rfl, rfl⟩
  · by_cases h2 : y < x
    · rw [show cmpZ x y = 1 by unfold cmpZ; rw [if_neg h1, if_pos h2]]
      go_enter Try.func53, Try.ntmps53
      go_wp2_with fail
      refine (N.out _ _).mono ?_
      rintro e w1 ⟨rfl, rfl⟩
      go_wp2_with fail
      refine (N.out _ _).mono ?_
      rintro e w1 ⟨rfl, rfl⟩
      go_wp2
      go_ret
      exact ⟨rfl, rfl⟩
    · rw [show cmpZ x y = 0 by unfold cmpZ; rw [if_neg h1, if_neg h2]]
      go_enter Try.func53, Try.ntmps53
      go_wp2_with fail
      refine (N.out _ _).mono ?_
      rintro e w1 ⟨rfl, rfl⟩
      go_wp2_with fail
      refine (N.out _ _).mono ?_
      rintro e w1 ⟨rfl, rfl⟩
      go_wp2
      go_ret
      exact ⟨rfl, rfl⟩
theorem cmpI64_any (w : World) (x y : Int) : Calls Try.prog 55 #[.int .i64 x, .int .i64 y] w fun e w' => e = .returned (.int .i64 (cmpZ x y)) ∧ w' = w := by
  have N := hide isNaNI64_any
  by_cases h1 : x < y
  · rw [show cmpZ x y = -1 by unfold cmpZ; rw [if_pos h1]]
    go_enter Try.func55, Try.ntmps55
    go_wp2_with fail
    refine (N.out _ _).mono ?_
    rintro e w1 ⟨rfl, rfl⟩
    go_wp2_with fail
    refine (N.out _ _).mono ?_
    rintro e w1 ⟨rfl, rfl⟩
    go_wp2
    go_ret
    exact ⟨rfl, rfl⟩
  · by_cases h2 : y < x
    · rw [show cmpZ x y = 1 by unfold cmpZ; rw [if_neg h1, if_pos h2]]
      go_enter Try.func55, Try.ntmps55
      go_wp2_with fail
      refine (N.out _ _).mono ?_
      rintro e w1 ⟨rfl, rfl⟩
      go_wp2_with fail
      refine (N.out _ _).mono ?_
      rintro e w1 ⟨rfl, rfl⟩
      go_wp2
      go_ret
      exact ⟨rfl, rfl⟩
    · rw [show cmpZ x y = 0 by unfold cmpZ; rw [if_neg h1, if_neg h2]]
      go_enter Try.func55, Try.ntmps55
      go_wp2_with fail
      refine (N.out _ _).mono ?_
      rintro e w1 ⟨rfl, rfl⟩
      go_wp2_with fail
      refine (N.out _ _).mono ?_
      rintro e w1 ⟨rfl, rfl⟩
      go_wp2
      go_ret
      exact ⟨rfl, rfl⟩
theorem cmpU64_any (w : World) (x y : Int) : Calls Try.prog 56 #[.int .u64 x, .int .u64 y] w fun e w' => e = .returned (.int .i64 (cmpZ x y)) ∧ w' = w := by
  have N := hide isNaNU64_any
  by_cases h1 : x < y
  · rw [show cmpZ x y = -1 by unfold cmpZ; rw [if_pos h1]]
    go_enter Try.func56, Try.ntmps56
    go_wp2_with fail
    refine (N.out _ _).mono ?_
    rintro e w1 ⟨rfl, rfl⟩
    go_wp2_with fail
    refine (N.out _ _).mono ?_
    rintro e w1 ⟨rfl, rfl⟩
    go_wp2
    go_ret
    exact ⟨rfl, rfl⟩
  · by_cases h2 : y < x
    · rw [show cmpZ x y = 1 by unfold cmpZ; rw [if_neg h1, if_pos h2]]
      go_enter Try.func56, Try.ntmps56
      go_wp2_with fail
      refine (N.out _ _).mono ?_
      rintro e w1 ⟨rfl, rfl⟩
      go_wp2_with fail
      refine (N.out _ _).mono ?_
      rintro e w1 ⟨rfl, rfl⟩
      go_wp2
      go_ret
      exact ⟨rfl, rfl⟩
    · rw [show cmpZ x y = 0 by unfold cmpZ; rw [if_neg h1, if_neg h2]]
      go_enter Try.func56, Try.ntmps56
      go_wp2_with fail
      refine (N.out _ _).mono ?_
      rintro e w1 ⟨rfl, rfl⟩
      go_wp2_with fail
      refine (N.out _ _).mono ?_
      rintro e w1 ⟨rfl, rfl⟩
      go_wp2
      go_ret
      exact ⟨rfl, rfl⟩
theorem and_sign (b : Nat) (hb : b < 18446744073709551616) : bits .and .u64 (b : Int) 9223372036854775808 = if 9223372036854775808 ≤ b then 9223372036854775808 else 0 := by
  have h := u64_and_nat b 9223372036854775808 hb (by decide)
  rw [show (9223372036854775808 : Nat) = 2 ^ 63 from rfl, nat_bit] at h
  refine h.trans ?_
  split
  · rw [show b / 2 ^ 63 = 1 by omega]; rfl
  · rw [show b / 2 ^ 63 = 0 by omega]; rfl
theorem or_sign (b : Nat) (hb : b < 9223372036854775808) : bits .or .u64 (b : Int) 9223372036854775808 = ((b + 9223372036854775808 : Nat) : Int) := by
  have h := u64_or_nat b 9223372036854775808 (by omega) (by decide)
  rw [Nat.or_comm, nat_join 63 9223372036854775808 b (by decide) hb, Nat.add_comm] at h
  exact h
theorem not64 (y : Nat) (hy : y < 18446744073709551616) : bits .xor .u64 18446744073709551615 (y : Int) = 18446744073709551615 - (y : Int) := by
  have e : BitVec.ofInt 64 18446744073709551615 = BitVec.allOnes 64 := by decide
  have h : bits .xor .u64 18446744073709551615 (y : Int) = ((BitVec.ofInt 64 18446744073709551615 ^^^ BitVec.ofInt 64 (y : Int)).toNat : Int) % 18446744073709551616 := by
    unfold bits
    simp only [IntKind.bits, IntKind.wrap, IntKind.signed]
    rfl
  rw [h, e, BitVec.allOnes_xor, BitVec.toNat_not, ofInt_u64 y hy]
  omega
theorem rank_any (w : World) (x : Nat) (hx : x < 18446744073709551616) : Calls Try.prog 57 #[.float .f64 x] w fun e w' => e = .returned (.int .u64 (rank x : Int)) ∧ w' = w := by
  have R := hide (oneNaN_any w x)
  have F := call_f64bits
  have ho := one_lt hx
  have ha := and_sign (one x) ho
  have us : IntKind.u64.signed = false := rfl
  have um : IntKind.u64.max = 18446744073709551615 := by decide
  unfold rank
  by_cases h : 9223372036854775808 ≤ one x
  · rw [if_pos h] at ha ⊢
    rw [show ((18446744073709551615 - one x : Nat) : Int) = 18446744073709551615 - (one x : Int) by omega]
    have hnt := not64 (one x) ho
    generalize one x = y at *
    go_enter Try.func57, Try.ntmps57
    go_wp2_with fail
    refine R.out.mono ?_
    rintro e w1 ⟨rfl, rfl⟩
    go_wp2
    go_ret
    exact ⟨by simp, rfl⟩
  · rw [if_neg h] at ha ⊢
    have hor := or_sign (one x) (by omega)
    generalize one x = y at *
    go_enter Try.func57, Try.ntmps57
    go_wp2_with fail
    refine R.out.mono ?_
    rintro e w1 ⟨rfl, rfl⟩
    go_wp2
    go_ret
    exact ⟨by simp, rfl⟩
theorem dints_any (w : World) (x y : Int) : Calls Try.prog 40 #[.int .i64 x, .int .i64 y] w fun e w' => e = .returned (.int .i64 (cmpZ x y)) ∧ w' = w := by
  unfold cmpZ
  by_cases h1 : x < y
  · rw [if_pos h1]
    go_enter Try.func40, Try.ntmps40
    go_wp2
    go_ret
    exact ⟨rfl, rfl⟩
  · rw [if_neg h1]
    by_cases h2 : y < x
    · rw [if_pos h2]
      go_enter Try.func40, Try.ntmps40
      go_wp2
      go_ret
      exact ⟨rfl, rfl⟩
    · rw [if_neg h2]
      go_enter Try.func40, Try.ntmps40
      go_wp2
      go_ret
      exact ⟨rfl, rfl⟩
theorem dbools_any (w : World) (x y : Bool) : Calls Try.prog 59 #[.bool x, .bool y] w fun e w' => e = .returned (.int .i64 (cmpBool x y)) ∧ w' = w := by
  cases x <;> cases y
  all_goals (go_enter Try.func59, Try.ntmps59; go_wp2; go_ret; exact ⟨rfl, rfl⟩)
theorem compareBools_any (w : World) (x y : Bool) : Calls Try.prog 54 #[.bool x, .bool y] w fun e w' => e = .returned (.int .i64 (cmpBool x y)) ∧ w' = w := by
  cases x <;> cases y
  all_goals (go_enter Try.func54, Try.ntmps54; go_wp2; go_ret; exact ⟨rfl, rfl⟩)
theorem shr63 (x : Nat) (hx : x < 18446744073709551616) : (x : Int) / 9223372036854775808 = if 9223372036854775808 ≤ x then 1 else 0 := by split <;> omega
theorem dreals_any (w : World) (x y : Nat) (hx : x < 18446744073709551616) (hy : y < 18446744073709551616) : Calls Try.prog 60 #[.int .u64 (x : Int), .int .u64 (y : Int)] w fun e w' => e = .returned (.int .i64 (cmpZ (rank x) (rank y))) ∧ w' = w := by
  rw [← reals_rank hx hy]
  have NA := hide (fun w => dIsNaN_any w x hx)
  have NB := hide (fun w => dIsNaN_any w y hy)
  cases hnx : nanb x with
  | true =>
    rw [hnx] at NA
    cases hny : nanb y with
    | true =>
      rw [hny] at NB
      rw [show reals x y = 0 by unfold reals; simp [*]]
      go_enter Try.func60, Try.ntmps60
      go_wp2_with fail
      refine (NA.out _).mono ?_
      rintro e w1 ⟨rfl, rfl⟩
      go_wp2_with fail
      refine (NA.out _).mono ?_
      rintro e w1 ⟨rfl, rfl⟩
      go_wp2_with fail
      refine (NB.out _).mono ?_
      rintro e w1 ⟨rfl, rfl⟩
      go_wp2
      go_ret
      exact ⟨rfl, rfl⟩
    | false =>
      rw [hny] at NB
      rw [show reals x y = 1 by unfold reals; simp [*]]
      go_enter Try.func60, Try.ntmps60
      go_wp2_with fail
      refine (NA.out _).mono ?_
      rintro e w1 ⟨rfl, rfl⟩
      go_wp2_with fail
      refine (NA.out _).mono ?_
      rintro e w1 ⟨rfl, rfl⟩
      go_wp2_with fail
      refine (NB.out _).mono ?_
      rintro e w1 ⟨rfl, rfl⟩
      go_wp2_with fail
      refine (NA.out _).mono ?_
      rintro e w1 ⟨rfl, rfl⟩
      go_wp2
      go_ret
      exact ⟨rfl, rfl⟩
  | false =>
    rw [hnx] at NA
    cases hny : nanb y with
    | true =>
      rw [hny] at NB
      rw [show reals x y = -1 by unfold reals; simp [*]]
      go_enter Try.func60, Try.ntmps60
      go_wp2_with fail
      refine (NA.out _).mono ?_
      rintro e w1 ⟨rfl, rfl⟩
      go_wp2_with fail
      refine (NB.out _).mono ?_
      rintro e w1 ⟨rfl, rfl⟩
      go_wp2_with fail
      refine (NA.out _).mono ?_
      rintro e w1 ⟨rfl, rfl⟩
      go_wp2_with fail
      refine (NA.out _).mono ?_
      rintro e w1 ⟨rfl, rfl⟩
      go_wp2
      go_ret
      exact ⟨rfl, rfl⟩
    | false =>
      rw [hny] at NB
      have sx := shr63 x hx
      have sy := shr63 y hy
      have qe : ((x : Int) == (y : Int)) = decide (x = y) := by rw [Bool.eq_iff_iff]; simp; omega
      have ql : decide ((x : Int) < (y : Int)) = decide (x < y) := by rw [decide_eq_decide]; omega
      by_cases h1 : 9223372036854775808 ≤ x
      · rw [if_pos h1] at sx
        by_cases h2 : 9223372036854775808 ≤ y
        · rw [if_pos h2] at sy
          by_cases h3 : x = y
          · subst h3
            rw [show reals x x = 0 by unfold reals; simp [*]]
            clear qe ql
            go_enter Try.func60, Try.ntmps60
            go_wp2_with fail
            refine (NA.out _).mono ?_
            rintro e w1 ⟨rfl, rfl⟩
            go_wp2_with fail
            refine (NB.out _).mono ?_
            rintro e w1 ⟨rfl, rfl⟩
            go_wp2
            go_ret
            exact ⟨rfl, rfl⟩
          · rw [decide_eq_false h3] at qe
            by_cases h4 : x < y
            · rw [decide_eq_true h4] at ql
              rw [show reals x y = 1 by unfold reals; simp [*]]
              have q4 : (x : Int) < (y : Int) := by omega
              have q5 : ((x : Int) == (y : Int)) = false := qe
              clear qe ql
              go_enter Try.func60, Try.ntmps60
              go_wp2_with fail
              refine (NA.out _).mono ?_
              rintro e w1 ⟨rfl, rfl⟩
              go_wp2_with fail
              refine (NB.out _).mono ?_
              rintro e w1 ⟨rfl, rfl⟩
              go_wp2
              go_ret
              exact ⟨rfl, rfl⟩
            · rw [decide_eq_false h4] at ql
              rw [show reals x y = -1 by unfold reals; simp [*]]
              have q4 : ¬ (x : Int) < (y : Int) := by omega
              have q5 : ((x : Int) == (y : Int)) = false := qe
              clear qe ql
              go_enter Try.func60, Try.ntmps60
              go_wp2_with fail
              refine (NA.out _).mono ?_
              rintro e w1 ⟨rfl, rfl⟩
              go_wp2_with fail
              refine (NB.out _).mono ?_
              rintro e w1 ⟨rfl, rfl⟩
              go_wp2
              go_ret
              exact ⟨rfl, rfl⟩
        · rw [if_neg h2] at sy
          rw [show reals x y = -1 by unfold reals; simp [*]]
          go_enter Try.func60, Try.ntmps60
          go_wp2_with fail
          refine (NA.out _).mono ?_
          rintro e w1 ⟨rfl, rfl⟩
          go_wp2_with fail
          refine (NB.out _).mono ?_
          rintro e w1 ⟨rfl, rfl⟩
          go_wp2
          go_ret
          exact ⟨rfl, rfl⟩
      · rw [if_neg h1] at sx
        by_cases h2 : 9223372036854775808 ≤ y
        · rw [if_pos h2] at sy
          rw [show reals x y = 1 by unfold reals; simp [*]]
          go_enter Try.func60, Try.ntmps60
          go_wp2_with fail
          refine (NA.out _).mono ?_
          rintro e w1 ⟨rfl, rfl⟩
          go_wp2_with fail
          refine (NB.out _).mono ?_
          rintro e w1 ⟨rfl, rfl⟩
          go_wp2
          go_ret
          exact ⟨rfl, rfl⟩
        · rw [if_neg h2] at sy
          by_cases h3 : x = y
          · subst h3
            rw [show reals x x = 0 by unfold reals; simp [*]]
            clear qe ql
            go_enter Try.func60, Try.ntmps60
            go_wp2_with fail
            refine (NA.out _).mono ?_
            rintro e w1 ⟨rfl, rfl⟩
            go_wp2_with fail
            refine (NB.out _).mono ?_
            rintro e w1 ⟨rfl, rfl⟩
            go_wp2
            go_ret
            exact ⟨rfl, rfl⟩
          · rw [decide_eq_false h3] at qe
            by_cases h4 : x < y
            · rw [decide_eq_true h4] at ql
              rw [show reals x y = -1 by unfold reals; simp [*]]
              have q4 : (x : Int) < (y : Int) := by omega
              have q5 : ((x : Int) == (y : Int)) = false := qe
              clear qe ql
              go_enter Try.func60, Try.ntmps60
              go_wp2_with fail
              refine (NA.out _).mono ?_
              rintro e w1 ⟨rfl, rfl⟩
              go_wp2_with fail
              refine (NB.out _).mono ?_
              rintro e w1 ⟨rfl, rfl⟩
              go_wp2
              go_ret
              exact ⟨rfl, rfl⟩
            · rw [decide_eq_false h4] at ql
              rw [show reals x y = 1 by unfold reals; simp [*]]
              have q4 : ¬ (x : Int) < (y : Int) := by omega
              have q5 : ((x : Int) == (y : Int)) = false := qe
              clear qe ql
              go_enter Try.func60, Try.ntmps60
              go_wp2_with fail
              refine (NA.out _).mono ?_
              rintro e w1 ⟨rfl, rfl⟩
              go_wp2_with fail
              refine (NB.out _).mono ?_
              rintro e w1 ⟨rfl, rfl⟩
              go_wp2
              go_ret
              exact ⟨rfl, rfl⟩
theorem bytesLess_cmp : ∀ (a b : List UInt8), Op.bytesLess a b = decide (cmpB (a.map UInt8.toNat) (b.map UInt8.toNat) = -1)
  | [], [] => rfl
  | [], _ :: _ => rfl
  | _ :: _, [] => rfl
  | x :: xs, y :: ys => by
    have ih := bytesLess_cmp xs ys
    simp only [List.map_cons, cmpB]
    unfold Op.bytesLess
    rw [ih]
    by_cases h1 : x.toNat < y.toNat
    · have : x < y := UInt8.lt_iff_toNat_lt.2 h1
      simp [h1, this]
    · have n1 : ¬ x < y := fun h => h1 (UInt8.lt_iff_toNat_lt.1 h)
      by_cases h2 : y.toNat < x.toNat
      · have e : ¬ x = y := fun h => by subst h; omega
        simp [h1, n1, h2, e]
      · have e : x = y := UInt8.toNat.inj (by omega)
        simp [e]
theorem str_less (x y : ByteArray) : Op.bytesLess x.toList y.toList = decide (cmpB (tl x) (tl y) = -1) := by
  rw [ByteArray.toList_eq, ByteArray.toList_eq]
  exact bytesLess_cmp _ _
theorem str_eq (x y : ByteArray) : (x.toList == y.toList) = decide (cmpB (tl x) (tl y) = 0) := by
  rw [ByteArray.toList_eq, ByteArray.toList_eq, Bool.eq_iff_iff, beq_iff_eq, decide_eq_true_iff, cmpB_zero]
  exact ⟨fun h => by unfold tl; rw [h], fun h => by rw [tl_inj h]⟩
theorem cmpB_tri (a b : List Nat) : cmpB a b = -1 ∨ cmpB a b = 0 ∨ cmpB a b = 1 := by
  induction a generalizing b with
  | nil => cases b <;> simp [cmpB]
  | cons x a ih =>
    cases b with
    | nil => simp [cmpB]
    | cons y b =>
      simp only [cmpB]
      split
      · exact .inl rfl
      · split
        · exact .inr (.inr rfl)
        · exact ih b
theorem cmpStr_any (w : World) (x y : ByteArray) : Calls Try.prog 58 #[.string x, .string y] w fun e w' => e = .returned (.int .i64 (cmpB (tl x) (tl y))) ∧ w' = w := by
  have N := hide isNaNStr_any
  have hl := str_less x y
  have he := str_eq x y
  rcases cmpB_tri (tl x) (tl y) with h | h | h
  · rw [h] at hl he ⊢
    have hl : Op.bytesLess x.toList y.toList = true := hl
    have he : (x.toList == y.toList) = false := he
    clear h
    go_enter Try.func58, Try.ntmps58
    go_wp2_with fail
    refine (N.out _ _).mono ?_
    rintro e w1 ⟨rfl, rfl⟩
    go_wp2_with fail
    refine (N.out _ _).mono ?_
    rintro e w1 ⟨rfl, rfl⟩
    go_wp2
    go_ret
    exact ⟨rfl, rfl⟩
  · rw [h] at hl he ⊢
    have hl : Op.bytesLess x.toList y.toList = false := hl
    have he : (x.toList == y.toList) = true := he
    clear h
    go_enter Try.func58, Try.ntmps58
    go_wp2_with fail
    refine (N.out _ _).mono ?_
    rintro e w1 ⟨rfl, rfl⟩
    go_wp2_with fail
    refine (N.out _ _).mono ?_
    rintro e w1 ⟨rfl, rfl⟩
    go_wp2
    go_ret
    exact ⟨rfl, rfl⟩
  · rw [h] at hl he ⊢
    have hl : Op.bytesLess x.toList y.toList = false := hl
    have he : (x.toList == y.toList) = false := he
    clear h
    go_enter Try.func58, Try.ntmps58
    go_wp2_with fail
    refine (N.out _ _).mono ?_
    rintro e w1 ⟨rfl, rfl⟩
    go_wp2_with fail
    refine (N.out _ _).mono ?_
    rintro e w1 ⟨rfl, rfl⟩
    go_wp2
    go_ret
    exact ⟨rfl, rfl⟩
end Go.Proofs.Ythfcgfdboienkaa
