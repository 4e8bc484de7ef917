import Derived.Test.YthfcgfdboienkabVC
import Derived.Shelf.Pu.Clone
namespace Go.Proofs.Ythfcgfdboienkab
open Go.RowKit

theorem order_self (x : Nat) : (FloatKind.f64.format.order x x != some Ordering.eq) = nanb x := by
  have e1 : Ieee.double.signWeight = 9223372036854775808 := by decide
  have e2 : Ieee.double.binade = 4503599627370496 := by decide
  have e3 : Ieee.double.infRung = 9218868437227405312 := by decide
  unfold FloatKind.format Ieee.Format.order Ieee.Format.read nanb
  simp only [e1, e2, e3]
  generalize x % 9223372036854775808 = r
  generalize (x / 9223372036854775808 % 2 == 1) = s
  by_cases h1 : r < 4503599627370496
  · rw [if_pos h1, decide_eq_false (by omega)]
    simp [Ieee.Datum.order]
  · rw [if_neg h1]
    by_cases h2 : r < 9218868437227405312
    · rw [if_pos h2, decide_eq_false (by omega)]
      simp [Ieee.Datum.order]
    · rw [if_neg h2]
      by_cases h3 : r = 9218868437227405312
      · rw [if_pos h3, decide_eq_false (by omega)]
        simp [Ieee.Datum.order]
      · rw [if_neg h3, decide_eq_true (by omega)]
        rfl
theorem mIsNaN_any (w : World) (x : Nat) : Calls Try.prog 74 #[.float .f64 x] w fun e w' => e = .returned (.bool (nanb x)) ∧ w' = w := by
  have h := order_self x
  go_enter Try.func74, Try.ntmps74
  go_wp2
  go_ret
  exact ⟨rfl, rfl⟩
theorem mNaN_any (w : World) : Calls Try.prog 75 #[] w fun e w' => e = .returned (.float .f64 9221120237041090561) ∧ w' = w := by
  have R : ∀ w, (callFunc 57 #[.int .u64 9221120237041090561]).run Try.prog w = .ok (.value (.float .f64 9221120237041090561)) w := call_f64from 9221120237041090561
  go_enter Try.func75, Try.ntmps75
  go_wp2
  go_ret
  exact ⟨rfl, rfl⟩
theorem oneNaN_any (w : World) (x : Nat) : Calls Try.prog 66 #[.float .f64 x] w fun e w' => e = .returned (.float .f64 (one x)) ∧ w' = w := by
  have R := hide mIsNaN_any
  have N := hide mNaN_any
  by_cases h : nanb x = true
  · rw [nanb_one x h]
    go_enter Try.func66, Try.ntmps66
    go_wp2_with fail
    refine (R.out _ _).mono ?_
    rintro e w1 ⟨rfl, rfl⟩
    go_wp2_with fail
    refine (N.out _).mono ?_
    rintro e w1 ⟨rfl, rfl⟩
    go_wp2
    go_ret
    exact ⟨rfl, rfl⟩
  · have h0 : one x = x := by unfold one; simp [h]
    have h1 : nanb x = false := by simpa using h
    rw [h0]
    clear h h0
    go_enter Try.func66, Try.ntmps66
    go_wp2_with fail
    refine (R.out _ _).mono ?_
    rintro e w1 ⟨rfl, rfl⟩
    go_wp2
    go_ret
    exact ⟨rfl, rfl⟩
theorem and_exp (x : Nat) (hx : x < 18446744073709551616) : bits .and .u64 ((x : Int) / 4503599627370496) 2047 = ((x / 4503599627370496 % 2048 : Nat) : Int) := by
  have h := u64_and_nat (x / 4503599627370496) 2047 (by omega) (by decide)
  rw [show (2047 : Nat) = 2 ^ 11 - 1 from rfl, Nat.and_two_pow_sub_one_eq_mod] at h
  exact h
theorem and_frac (x : Nat) (hx : x < 18446744073709551616) : bits .and .u64 (x : Int) 4503599627370495 = ((x % 4503599627370496 : Nat) : Int) := by
  have h := u64_and_nat x 4503599627370495 (by omega) (by decide)
  rw [show (4503599627370495 : Nat) = 2 ^ 52 - 1 from rfl, Nat.and_two_pow_sub_one_eq_mod] at h
  exact h
theorem dIsNaN_any (w : World) (x : Nat) (hx : x < 18446744073709551616) : Calls Try.prog 76 #[.int .u64 (x : Int)] w fun e w' => e = .returned (.bool (nanb x)) ∧ w' = w := by
  have h1 := and_exp x hx
  have h2 := and_frac x hx
  by_cases h : x / 4503599627370496 % 2048 = 2047
  · have HE : Hid (nanb x = (((x % 4503599627370496 : Nat) : Int) != 0)) := by
      show _ = _
      unfold nanb
      by_cases h3 : x % 4503599627370496 = 0
      · rw [h3, decide_eq_false (by omega)]; rfl
      · rw [decide_eq_true (by omega)]
        symm
        simp only [bne_iff_ne, ne_eq]
        omega
    rw [h] at h1
    have h1 : bits .and .u64 ((x : Int) / 4503599627370496) 2047 = 2047 := h1
    generalize x % 4503599627370496 = r at *
    clear h
    go_enter Try.func76, Try.ntmps76
    go_wp2
    go_ret
    exact ⟨by rw [HE.out]; first | done | rfl, rfl⟩
  · have HE : Hid (nanb x = false) := by
      show _ = _
      unfold nanb
      exact decide_eq_false (by omega)
    have h0 : ¬ ((x / 4503599627370496 % 2048 : Nat) : Int) = 2047 := by omega
    generalize x / 4503599627370496 % 2048 = r at *
    clear h h2
    go_enter Try.func76, Try.ntmps76
    go_wp2
    go_ret
    exact ⟨by rw [HE.out]; first | done | rfl, rfl⟩
theorem done_any (w : World) (x : Nat) (hx : x < 18446744073709551616) : Calls Try.prog 73 #[.int .u64 (x : Int)] w fun e w' => e = .returned (.int .u64 (one x : Int)) ∧ w' = w := by
  have R := hide (dIsNaN_any w x hx)
  by_cases h : nanb x = true
  · rw [nanb_one x h]
    rw [h] at R
    go_enter Try.func73, Try.ntmps73
    go_wp2_with fail
    refine (R.out).mono ?_
    rintro e w1 ⟨rfl, rfl⟩
    go_wp2
    go_ret
    exact ⟨rfl, rfl⟩
  · have h0 : one x = x := by unfold one; simp [h]
    have h1 : nanb x = false := by simpa using h
    rw [h0]
    rw [h1] at R
    clear h h0
    go_enter Try.func73, Try.ntmps73
    go_wp2_with fail
    refine (R.out).mono ?_
    rintro e w1 ⟨rfl, rfl⟩
    go_wp2
    go_ret
    exact ⟨rfl, rfl⟩
/-- the mark of a place of room -/
def mk (i : Nat) : VV := ⟨-77 - i, false, i, 0, 0, 0, ⟨#[114, 111, 111, 109]⟩⟩
theorem mark_any (w : World) (i : Nat) (hi : i ≤ 9223372036854775000) : Calls Try.prog 30 #[.int .i64 (i : Int)] w fun e w' => e = .returned (.agg (mk i).pc) ∧ Below w.heap.size w w' := by
  have sf := st_float
  have sc := st_complex
  have hw : IntKind.i64.wrap (-77 - (i : Int)) = -77 - (i : Int) := wrapI (by omega) (by omega)
  unfold VV.pc mk
  go_enter Try.func30, Try.ntmps30
  go_wp2
  refine bodyPost_ret (v := .agg _) (by simp [results, Try.results30, go_sem]) rfl ⟨rfl, ?_⟩
  exact (Below.refl w.heap.size w).alloc (Nat.le_refl _) _

theorem kinds7 (k : Int) : k = 0 ∨ k = 1 ∨ k = 2 ∨ k = 3 ∨ k = 4 ∨ k = 5 ∨ k < 0 ∨ 5 < k := by omega
theorem ba_size0 {t : ByteArray} (h : t.size = 0) : t = ⟨#[]⟩ := by
  apply ByteArray.ext
  exact Array.eq_empty_of_size_eq_zero h
theorem ba_emp (t : ByteArray) : t.toList.isEmpty = decide (t.size = 0) := by
  rw [ByteArray.toList_eq]
  by_cases h : t.size = 0
  · rw [ba_size0 h]; rfl
  · rw [decide_eq_false h]
    cases e : t.data.toList with
    | nil => exact absurd (by rw [← tl_length]; unfold tl; rw [e]; rfl) h
    | cons x l => rfl
end Go.Proofs.Ythfcgfdboienkab
