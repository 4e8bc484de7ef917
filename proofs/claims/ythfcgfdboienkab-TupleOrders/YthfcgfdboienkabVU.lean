import Derived.Test.YthfcgfdboienkabVT
import Derived.Shelf.Small.Bits
namespace Go.Proofs.Ythfcgfdboienkab
open Go.RowKit

def renL : Shelf.Ren := ⟨fun _ => 65, fun t => if t = 46 then 89 else if t = 53 then 50 else t, fun x => x⟩
theorem laysL : Lays.n129 Try.prog renL where
  mixed := by kernel_rfl
  f129 := by kernel_rfl
  t3 := by kernel_rfl
  a3 := fun w => by kernel_rfl
  z3 := fun w => by kernel_rfl
  v3 := fun w => by kernel_rfl
  t4 := by kernel_rfl
  a4 := fun w => by kernel_rfl
  z4 := fun w => by kernel_rfl
  v4 := fun w => by kernel_rfl
  t5 := by kernel_rfl
  a5 := fun w => by kernel_rfl
  z5 := fun w => by kernel_rfl
  v5 := fun w => by kernel_rfl
  t9 := by kernel_rfl
  a9 := fun w => by kernel_rfl
  z9 := fun w => by kernel_rfl
  v9 := fun w => by kernel_rfl
  t46 := by kernel_rfl
  a46 := fun w => by kernel_rfl
  z46 := fun w => by kernel_rfl
  v46 := fun w => by kernel_rfl
  t53 := by kernel_rfl
  a53 := fun w => by kernel_rfl
  z53 := fun w => by kernel_rfl
  v53 := fun w => by kernel_rfl
theorem bitLen_wd (x : Nat) (hx : x < 18446744073709551616) : (Lib.bitLen x + 7) / 8 = wd x ∧ Lib.bitLen x ≤ 64 := by
  by_cases h : x < 256
  · have h8 := Lib.bitLen_le8 ⟨x, h⟩
    dsimp only at h8
    by_cases h0 : x = 0
    · subst h0; rw [wd_zero]; decide
    · have h1 := Lib.bitLen_half x h0 (by omega)
      rw [wd_pos (by omega), show x / 256 = 0 by omega, wd_zero]
      omega
  · have ih := bitLen_wd (x / 256) (by omega)
    have hs := Lib.bitLen_shift8 x (by omega) hx
    have hle : wd x ≤ 8 := wd_le hx
    rw [wd_pos (by omega)] at hle ⊢
    omega
theorem len64_any (w : World) (x : Nat) (hx : x < 18446744073709551616) : Calls Try.prog 65 #[.int .u64 (x : Int)] w fun e w' => ∃ r : Nat, e = .returned (.int .i64 (r : Int)) ∧ (r + 7) / 8 = wd x ∧ r ≤ 64 ∧ w' = w :=
  (Any.bits_Len64 laysL (x : Int) w (by omega) (by omega)).mono fun _ _ h => ⟨Lib.bitLen x, by rw [h.1, Int.toNat_natCast], (bitLen_wd x hx).1, (bitLen_wd x hx).2, h.2⟩
theorem twidth_any (w : World) (x : Int) (h0 : -9223372036854775808 ≤ x) (h1 : x ≤ 9223372036854775807) : Calls Try.prog 47 #[.int .i64 x] w fun e w' => e = .returned (.int .i64 (iw x : Int)) ∧ w' = w := by
  unfold iw
  by_cases h : 0 ≤ x
  · rw [if_pos h]
    obtain ⟨n, rfl⟩ : ∃ n : Nat, x = n := ⟨x.toNat, by omega⟩
    have hn : ¬ (n : Int) < 0 := by omega
    have L := hide (len64_any w n (by omega))
    have hu : IntKind.u64.wrap (n : Int) = (n : Int) := by simp [IntKind.wrap, IntKind.bits, IntKind.signed]; omega
    rw [Int.toNat_natCast]
    go_enter Try.func47, Try.ntmps47
    go_wp2_with fail
    refine L.out.mono ?_
    rintro e w1 ⟨r, rfl, hr, hr2, rfl⟩
    have ha : IntKind.i64.wrap ((r : Int) + 7) = (r : Int) + 7 := wrapI (by omega) (by omega)
    have HR := hide hr
    clear hr
    go_wp2
    go_ret
    exact ⟨by rw [← HR.out]; first | rfl | simp, rfl⟩
  · rw [if_neg h]
    obtain ⟨n, hn⟩ : ∃ n : Nat, n = (-1 - x).toNat := ⟨_, rfl⟩
    rw [← hn]
    have hn2 : x < 0 := by omega
    have hs : IntKind.i64.wrap (-1 - x) = (n : Int) := by rw [wrapI (by omega) (by omega)]; omega
    have L := hide (len64_any w n (by omega))
    have hu : IntKind.u64.wrap (n : Int) = (n : Int) := by simp [IntKind.wrap, IntKind.bits, IntKind.signed]; omega
    clear hn
    go_enter Try.func47, Try.ntmps47
    go_wp2_with fail
    refine L.out.mono ?_
    rintro e w1 ⟨r, rfl, hr, hr2, rfl⟩
    have ha : IntKind.i64.wrap ((r : Int) + 7) = (r : Int) + 7 := wrapI (by omega) (by omega)
    have HR := hide hr
    clear hr
    go_wp2
    go_ret
    exact ⟨by rw [← HR.out]; first | rfl | simp, rfl⟩
end Go.Proofs.Ythfcgfdboienkab
