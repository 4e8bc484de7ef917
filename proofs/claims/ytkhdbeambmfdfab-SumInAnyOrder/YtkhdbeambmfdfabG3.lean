import Derived.Test.YtkhdbeambmfdfabG2
namespace Go.Proofs.Ytkhdbeambmfdfab
open Go.RowKit
attribute [local go_sem ↓] Go.wp_at_zero Go.wp_at_succ

set_option maxRecDepth 100000 in
set_option maxHeartbeats 8000000 in
theorem order_in (a b c : Nat) (m n : Int) (w : World) (ha : a < 4294967296) (hb : b < 4294967296) (hc : c < 4294967296) (hm0 : 0 ≤ m) (hn0 : 0 ≤ n) (hmn : m ≤ 9223372036854775807 - n) :
    Calls Try.prog 4 #[.agg #[.int .u32 a, .int .u32 b, .int .u32 c, .int .i64 m, .int .i64 n]] w
      fun e w' => e = .returned (.bool true) ∧ Below w.heap.size w w' := by
  have l1 := M.join_lt (n := m.toNat) ha hb
  have l3 := M.join_lt (n := n.toNat) hb hc
  have k1 := M.zeros_lt m.toNat
  have k2 := M.zeros_lt n.toNat
  have J1 := hide fun W => Join_any a b m W ha hb (by omega)
  have J2 := hide fun W => Join_any _ c n W l1 hc (by omega)
  have J3 := hide fun W => Join_any b c n W hb hc (by omega)
  have J4 := hide fun W => Join_any a _ (m + n) W ha l3 (by omega)
  have Z1 := hide fun W => Zeros_any m W (by omega)
  have Z2 := hide fun W => Zeros_any n W (by omega)
  have Z3 := hide fun W => Join_any _ _ n W k1 k2 (by omega)
  have Z4 := hide fun W => Zeros_any (m + n) W (by omega)
  have et : (m + n).toNat = m.toNat + n.toNat := by omega
  rw [M.join_assoc] at J2
  rw [et] at J4 Z4
  rw [M.zeros_add] at Z3
  generalize M.join a (M.join b c n.toNat) (m.toNat + n.toNat) = j2 at *
  generalize M.join a b m.toNat = j1 at *
  generalize M.join b c n.toNat = j3 at *
  generalize M.zeros (m.toNat + n.toNat) = z3 at *
  generalize M.zeros m.toNat = z1 at *
  generalize M.zeros n.toNat = z2 at *
  clear ha hb hc l1 l3 k1 k2 et
  have hs1 : m + n ≤ 9223372036854775807 := by omega
  have hwr : IntKind.i64.wrap (m + n) = m + n := by rw [IntKind.wrap_i64]; omega
  go_enter Try.func4, Try.ntmps4
  go_wp2_with fail
  obtain ⟨t0, b0⟩ := three_box w a b c m n 30
  refine (fixed_any _).mono ?_
  rintro e w1 ⟨rfl, hb1⟩
  have t1 := t0.keep hb1
  have b1 := bt b0 hb1
  obtain ⟨q0, q1, q2, q3, q4⟩ := t1
  clear t0 b0 hb1
  go_wp2
  go_region_held3 (fun w' => (w'.cell? ⟨w.heap.size, 0, none⟩ = some (.int .u32 a) ∧ w'.cell? ⟨w.heap.size, 1, none⟩ = some (.int .u32 b) ∧ w'.cell? ⟨w.heap.size, 2, none⟩ = some (.int .u32 c) ∧ w'.cell? ⟨w.heap.size, 3, none⟩ = some (.int .i64 m) ∧ w'.cell? ⟨w.heap.size, 4, none⟩ = some (.int .i64 n)) ∧ Below w.heap.size w w')
    (first | exact three_start ⟨q0, q1, q2, q3, q4⟩ b1 | (refine three_keep hb9 ?_; assumption) | (refine three_keep hb8 ?_; assumption) | (refine three_keep hb7 ?_; assumption) | (refine three_keep hb6 ?_; assumption) | (refine three_keep hb5 ?_; assumption) | (refine three_keep hb4 ?_; assumption) | (refine three_keep hb3 ?_; assumption) | (refine three_keep hb2 ?_; assumption))
    (first | (go_at_call_of 10 (Value.int IntKind.u32 (j1 : Int)); refine (J2.out _).mono ?_; rintro e w3 ⟨rfl, hb3⟩) | (go_at_call_of 10 (Value.int IntKind.u32 (z1 : Int)); refine (Z3.out _).mono ?_; rintro e w8 ⟨rfl, hb8⟩) | (go_at_call_of 10 (Value.int IntKind.u32 (j3 : Int)); refine (J4.out _).mono ?_; rintro e w5 ⟨rfl, hb5⟩) | (go_at_call_of 10 (Value.int IntKind.u32 (a : Int)); refine (J1.out _).mono ?_; rintro e w2 ⟨rfl, hb2⟩) | (go_at_call 10; refine (J3.out _).mono ?_; rintro e w4 ⟨rfl, hb4⟩) | (go_at_call_of 13 (Value.int IntKind.i64 m); refine (Z1.out _).mono ?_; rintro e w6 ⟨rfl, hb6⟩) | (go_at_call_of 13 (Value.int IntKind.i64 n); refine (Z2.out _).mono ?_; rintro e w7 ⟨rfl, hb7⟩) | (go_at_call 13; refine (Z4.out _).mono ?_; rintro e w9 ⟨rfl, hb9⟩))
  go_wp2
  go_ret
  exact ⟨rfl, bt (bt (bt (bt (bt (bt (bt (bt b1.drew hb2) hb3) hb4) hb5) hb6) hb7) hb8) hb9⟩

set_option maxHeartbeats 1000000 in
theorem order_out (a b c : Nat) (m n : Int) (w : World) (hn : n ≤ 9223372036854775807) (h : m < 0 ∨ (0 ≤ m ∧ n < 0) ∨ (0 ≤ m ∧ 0 ≤ n ∧ 9223372036854775807 - n < m)) :
    Calls Try.prog 4 #[.agg #[.int .u32 a, .int .u32 b, .int .u32 c, .int .i64 m, .int .i64 n]] w
      fun e w' => e = .returned (.bool true) ∧ Below w.heap.size w w' := by
  rcases h with h | ⟨h1, h2⟩ | ⟨h1, h2, h3⟩
  · have _u := hn
    go_enter Try.func4, Try.ntmps4
    go_wp2_with fail
    obtain ⟨t0, b0⟩ := three_box w a b c m n 30
    refine (fixed_any _).mono ?_
    rintro e w1 ⟨rfl, hb1⟩
    have t1 := t0.keep hb1
    have b1 := bt b0 hb1
    obtain ⟨q0, q1, q2, q3, q4⟩ := t1
    clear t0 b0 hb1
    go_wp2
    go_ret
    exact ⟨rfl, b1⟩
  · have hp : ¬ m < 0 := by omega
    go_enter Try.func4, Try.ntmps4
    go_wp2_with fail
    obtain ⟨t0, b0⟩ := three_box w a b c m n 30
    refine (fixed_any _).mono ?_
    rintro e w1 ⟨rfl, hb1⟩
    have t1 := t0.keep hb1
    have b1 := bt b0 hb1
    obtain ⟨q0, q1, q2, q3, q4⟩ := t1
    clear t0 b0 hb1
    go_wp2
    go_ret
    exact ⟨rfl, b1⟩
  · have hp : ¬ m < 0 := by omega
    have hp2 : ¬ n < 0 := by omega
    go_enter Try.func4, Try.ntmps4
    go_wp2_with fail
    obtain ⟨t0, b0⟩ := three_box w a b c m n 30
    refine (fixed_any _).mono ?_
    rintro e w1 ⟨rfl, hb1⟩
    have t1 := t0.keep hb1
    have b1 := bt b0 hb1
    obtain ⟨q0, q1, q2, q3, q4⟩ := t1
    clear t0 b0 hb1
    go_wp2
    go_ret
    exact ⟨rfl, b1⟩
theorem order_walk (a b c : Nat) (m n : Int) (w : World) (ha : a < 4294967296) (hb : b < 4294967296) (hc : c < 4294967296) (hn : n ≤ 9223372036854775807) :
    Calls Try.prog 4 #[.agg #[.int .u32 a, .int .u32 b, .int .u32 c, .int .i64 m, .int .i64 n]] w
      fun e w' => e = .returned (.bool true) ∧ Below w.heap.size w w' := by
  by_cases h1 : m < 0
  · exact order_out a b c m n w hn (.inl h1)
  · by_cases h2 : n < 0
    · exact order_out a b c m n w hn (.inr (.inl ⟨by omega, h2⟩))
    · by_cases h3 : 9223372036854775807 - n < m
      · exact order_out a b c m n w hn (.inr (.inr ⟨by omega, by omega, h3⟩))
      · exact order_in a b c m n w ha hb hc (by omega) (by omega) (by omega)
end Go.Proofs.Ytkhdbeambmfdfab
