import Derived.Test.YthfcgfdboienkaaVY
import Derived.Test.YthfcgfdboienkaaVE
namespace Go.Proofs.Ythfcgfdboienkaa
open Go.RowKit

theorem xor_low (x : Nat) (h : x < 9223372036854775808) : x ^^^ 9223372036854775808 = x + 9223372036854775808 := by
  have e : x + 9223372036854775808 = 9223372036854775808 ||| x := by rw [nat_join 63 9223372036854775808 x (by decide) h, Nat.add_comm]
  rw [e]
  apply Nat.eq_of_testBit_eq
  intro i
  rw [Nat.testBit_xor, Nat.testBit_or, show (9223372036854775808 : Nat) = 2 ^ 63 from rfl, Nat.testBit_two_pow]
  by_cases hi : 63 = i
  · subst hi
    rw [Nat.testBit_lt_two_pow (show x < 2 ^ 63 from h)]
    decide
  · rw [decide_eq_false hi]
    simp
theorem xor_high (x : Nat) (h : 9223372036854775808 ≤ x) (h2 : x < 18446744073709551616) : x ^^^ 9223372036854775808 = x - 9223372036854775808 := by
  have e := xor_low (x - 9223372036854775808) (by omega)
  rw [Nat.sub_add_cancel h] at e
  conv => lhs; rw [← e, Nat.xor_assoc, Nat.xor_self, Nat.xor_zero]
theorem xor_sign_low (x : Nat) (h : x < 9223372036854775808) : bits .xor .u64 (x : Int) 9223372036854775808 = ((x + 9223372036854775808 : Nat) : Int) := by
  have e := u64_xor_nat x 9223372036854775808 (by omega) (by decide)
  rw [xor_low x h] at e
  exact e
theorem xor_sign_high (x : Nat) (h : 9223372036854775808 ≤ x) (h2 : x < 18446744073709551616) : bits .xor .u64 (x : Int) 9223372036854775808 = ((x - 9223372036854775808 : Nat) : Int) := by
  have e := u64_xor_nat x 9223372036854775808 h2 (by decide)
  rw [xor_high x h h2] at e
  exact e
theorem not64' (y : Nat) (hy : y < 18446744073709551616) : bits .xor .u64 18446744073709551615 (y : Int) = ((18446744073709551615 - y : Nat) : Int) := by
  rw [not64 y hy]; omega
/-- what an append gives back -/
def Gives (w : World) (a : Option Addr) (Z : List Nat) (e : Ending) (w' : World) : Prop := ∃ a' cap', e = .returned (.slice a' Z.length cap') ∧ Apd w a w' a' cap' Z
theorem dbig_gives (w : World) (a : Option Addr) (cap n k : Nat) (l : List Nat) (x : Nat) (hR : Rw w a cap l) (hk : k ≤ 8) (hn : n = l.length) (hlen : l.length + 8 ≤ 140737488355328) :
    Calls Try.prog 77 #[.slice a n cap, .int .u64 (x : Int), .int .i64 (k : Int)] w (Gives w a (l ++ hb x k)) := by
  refine (dbig_any w a cap n k l x hR hk hn hlen).mono ?_
  rintro e w' ⟨a', cap', rfl, h⟩
  exact ⟨a', cap', by rw [List.length_append, hb_length, hn], h⟩

theorem dputReal_any (w : World) (a : Option Addr) (cap n : Nat) (l : List Nat) (x : Nat) (hR : Rw w a cap l) (hx : x < 18446744073709551616) (hn : n = l.length) (hlen : l.length + 8 ≤ 140737488355328) :
    Calls Try.prog 62 #[.slice a n cap, .int .u64 (x : Int)] w (Gives w a (l ++ hb (rank x) 8)) := by
  have O := hide (done_any w x hx)
  have ho := one_lt hx
  have B := hide (fun y => dbig_gives w a cap n 8 l y hR (by omega) hn hlen)
  have us : IntKind.u64.signed = false := rfl
  have um : IntKind.u64.max = 18446744073709551615 := by decide
  clear hR hn hlen hx
  unfold rank
  generalize one x = y at *
  have sy := shr63 y ho
  by_cases h : 9223372036854775808 ≤ y
  · rw [if_pos h] at sy ⊢
    have hnt := not64' y ho
    have BY := hide (B.out (18446744073709551615 - y))
    clear B
    generalize 18446744073709551615 - y = z at *
    go_enter Try.func62, Try.ntmps62
    go_wp2_with fail
    refine O.out.mono ?_
    rintro e w1 ⟨rfl, rfl⟩
    go_wp2_with fail
    refine BY.out.mono ?_
    rintro e w1 ⟨a', cap', rfl, h1⟩
    have H1 := hide h1
    clear h1
    go_wp2
    go_ret
    exact ⟨a', cap', by first | rfl | simp, H1.out⟩
  · rw [if_neg h] at sy ⊢
    have hnt := xor_sign_low y (by omega)
    have BY := hide (B.out (y + 9223372036854775808))
    clear B
    generalize y + 9223372036854775808 = z at *
    go_enter Try.func62, Try.ntmps62
    go_wp2_with fail
    refine O.out.mono ?_
    rintro e w1 ⟨rfl, rfl⟩
    go_wp2_with fail
    refine BY.out.mono ?_
    rintro e w1 ⟨a', cap', rfl, h1⟩
    have H1 := hide h1
    clear h1
    go_wp2
    go_ret
    exact ⟨a', cap', by first | rfl | simp, H1.out⟩
set_option maxHeartbeats 800000 in
theorem dputInt_any (w : World) (a : Option Addr) (cap n : Nat) (l : List Nat) (x : Int) (hR : Rw w a cap l) (h0 : -9223372036854775808 ≤ x) (h1 : x ≤ 9223372036854775807) (hn : n = l.length) (hlen : l.length + 9 ≤ 140737488355328) :
    Calls Try.prog 61 #[.slice a n cap, .int .i64 x] w (Gives w a (l ++ ((if 0 ≤ x then 32 + iw x else 31 - iw x) :: hb (ub x) (iw x)))) := by
  subst hn
  have hi := iw_le h0 h1
  have HR := hide hR
  have HLEN := hide hlen
  clear hR hlen
  have us : IntKind.u64.signed = false := rfl
  have um : IntKind.u64.max = 18446744073709551615 := by decide
  by_cases h : 0 ≤ x
  · rw [if_pos h]
    obtain ⟨y, rfl⟩ : ∃ y : Nat, x = y := ⟨x.toNat, by omega⟩
    have hub : ub (y : Int) = y := by unfold ub; omega
    have hiw : iw (y : Int) = wd y := by unfold iw; rw [if_pos h, Int.toNat_natCast]
    rw [hub]
    rw [hiw] at hi ⊢
    have W := hide (dwidth_any w y (by omega))
    have hu : IntKind.u64.wrap (y : Int) = (y : Int) := by rw [ub_wrap, hub]
    have hge : ¬ (y : Int) < 0 := by omega
    generalize wd y = q at *
    have hb1 : IntKind.i64.wrap (32 + (q : Int)) = ((32 + q : Nat) : Int) := by rw [wrapI (by omega) (by omega)]; omega
    have hb2 : IntKind.u8.wrap ((32 + q : Nat) : Int) = ((32 + q : Nat) : Int) := by rw [IntKind.wrap_u8']; omega
    have HE : Hid (l ++ ((32 + q) :: hb y q) = (l ++ [32 + q]) ++ hb y q) := by show _ = _; simp
    have HL : Hid (l.length + 1 = (l ++ [32 + q]).length) := by show _ = _; simp
    rw [HE.out]
    generalize 32 + q = c at *
    clear hub hiw
    go_enter Try.func61, Try.ntmps61
    go_wp2_with fail
    refine W.out.mono ?_
    rintro e w1 ⟨rfl, rfl⟩
    go_wp2_with (at_builtin; refine wpList_ap1 rfl _ _ rfl a l.length cap l rfl rfl (HR.out.keep (al _ _)) ⟨w1.heap.size, 0, none⟩ 1 c rfl ?c1 (by have := HLEN.out; omega) ?_)
    case c1 => exact new_cell _ _ rfl _ _
    intro g2 cap2 w2 hR2 hN2 hg2 _
    have A1 := hide (Apd.ofGrown (al _ _) hR2 hN2 hg2)
    have B := hide (dbig_gives w2 _ cap2 (l.length + 1) q (l ++ [c]) y hR2 hi HL.out (by have := HLEN.out; rw [← HL.out]; omega))
    clear hR2 hN2 hg2
    go_wp2_with fail
    refine B.out.mono ?_
    rintro e w3 ⟨a3, c3, rfl, h3⟩
    have H3 := hide h3
    clear h3
    go_wp2
    go_ret
    exact ⟨a3, c3, by first | rfl | simp, A1.out.trans H3.out⟩
  · rw [if_neg h]
    obtain ⟨y, hy⟩ : ∃ y : Nat, y = (-1 - x).toNat := ⟨_, rfl⟩
    have hyi : (y : Int) = -1 - x := by omega
    have hub : ub x = 18446744073709551615 - y := by unfold ub; omega
    have hiw : iw x = wd y := by unfold iw; rw [if_neg h, hy]
    rw [hub]
    rw [hiw] at hi ⊢
    have W := hide (dwidth_any w y (by omega))
    have hs : IntKind.i64.wrap (-1 - x) = (y : Int) := by rw [wrapI (by omega) (by omega)]; omega
    have hu : IntKind.u64.wrap (y : Int) = (y : Int) := by rw [ub_wrap]; unfold ub; omega
    have hnt := not64' y (by omega)
    have hge : x < 0 := by omega
    clear hy hyi hub hiw
    generalize 18446744073709551615 - y = z at *
    generalize wd y = q at *
    have hb1 : IntKind.i64.wrap (31 - (q : Int)) = ((31 - q : Nat) : Int) := by rw [wrapI (by omega) (by omega)]; omega
    have hb2 : IntKind.u8.wrap ((31 - q : Nat) : Int) = ((31 - q : Nat) : Int) := by rw [IntKind.wrap_u8']; omega
    have HE : Hid (l ++ ((31 - q) :: hb z q) = (l ++ [31 - q]) ++ hb z q) := by show _ = _; simp
    have HL : Hid (l.length + 1 = (l ++ [31 - q]).length) := by show _ = _; simp
    rw [HE.out]
    generalize 31 - q = c at *
    go_enter Try.func61, Try.ntmps61
    go_wp2_with fail
    refine W.out.mono ?_
    rintro e w1 ⟨rfl, rfl⟩
    go_wp2_with (at_builtin; refine wpList_ap1 rfl _ _ rfl a l.length cap l rfl rfl (HR.out.keep (al _ _)) ⟨w1.heap.size, 0, none⟩ 1 c rfl ?c2 (by have := HLEN.out; omega) ?_)
    case c2 => exact new_cell _ _ rfl _ _
    intro g2 cap2 w2 hR2 hN2 hg2 _
    have A1 := hide (Apd.ofGrown (al _ _) hR2 hN2 hg2)
    have B := hide (dbig_gives w2 _ cap2 (l.length + 1) q (l ++ [c]) z hR2 hi HL.out (by have := HLEN.out; rw [← HL.out]; omega))
    clear hR2 hN2 hg2
    go_wp2_with fail
    refine B.out.mono ?_
    rintro e w3 ⟨a3, c3, rfl, h3⟩
    have H3 := hide h3
    clear h3
    go_wp2
    go_ret
    exact ⟨a3, c3, by first | rfl | simp, A1.out.trans H3.out⟩
end Go.Proofs.Ythfcgfdboienkaa
