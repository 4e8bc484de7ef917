import Derived.Test.YtkhdbeambmfdfabG
import Derived.Test.YtkhdbeambmfdfabR
namespace Go.Proofs.Ytkhdbeambmfdfab
open Go.RowKit
attribute [local go_sem ↓] Go.wp_at_zero Go.wp_at_succ

theorem three_keep {w W W' : World} {a b c k : Nat} {m n : Int} (hb : Below W.heap.size W W') (h : ThreeAt W k a b c m n ∧ Below w.heap.size w W) :
    ThreeAt W' k a b c m n ∧ Below w.heap.size w W' := ⟨h.1.keep hb, bt h.2 hb⟩
theorem three_start {w W : World} {a b c k : Nat} {m n : Int} (h : ThreeAt W k a b c m n) (hb : Below w.heap.size w W) :
    ThreeAt W.drew k a b c m n ∧ Below w.heap.size w W.drew := ⟨h, hb.drew⟩
theorem three_box (w : World) (a b c : Nat) (m n : Int) (t : TypeId) : ThreeAt (w.alloc (.cells #[.int .u32 a, .int .u32 b, .int .u32 c, .int .i64 m, .int .i64 n] t)) w.heap.size a b c m n
    ∧ Below w.heap.size w (w.alloc (.cells #[.int .u32 a, .int .u32 b, .int .u32 c, .int .i64 m, .int .i64 n] t)) :=
  ⟨ThreeAt.row (heap_alloc_new _ _), (Below.refl _ _).alloc (Nat.le_refl _) _⟩

set_option maxRecDepth 100000 in
set_option maxHeartbeats 4000000 in
theorem round_in (a b c : Nat) (m n : Int) (w : World) (ha : a < 4294967296) (hb : b < 4294967296) (hn0 : 0 ≤ n) (hn : n ≤ 9223372034707292160) :
    Calls Try.prog 6 #[.agg #[.int .u32 a, .int .u32 b, .int .u32 c, .int .i64 m, .int .i64 n]] w
      fun e w' => e = .returned (.bool true) ∧ Below w.heap.size w w' := by
  have J1 := hide fun W => Join_any a b (n + 2147483647) W ha hb (by omega)
  have J2 := hide fun W => Join_any a b n W ha hb (by omega)
  have Z1 := hide fun W => Zeros_any (n + 2147483647) W (by omega)
  have Z2 := hide fun W => Zeros_any n W (by omega)
  rw [show (n + 2147483647).toNat = n.toNat + 2147483647 by omega, M.join_round a b _ ha] at J1
  rw [show (n + 2147483647).toNat = n.toNat + 2147483647 by omega, M.zeros_round] at Z1
  generalize M.join a b n.toNat = j1 at *
  generalize M.zeros n.toNat = z1 at *
  clear ha hb
  have hwr : IntKind.i64.wrap (n + 2147483647) = n + 2147483647 := by rw [IntKind.wrap_i64]; omega
  go_enter Try.func6, Try.ntmps6
  go_wp2_with fail
  obtain ⟨t0, b0⟩ := three_box w a b c m n 30
  refine (fixed_any _).mono ?_
  rintro e w1 ⟨rfl, hb1⟩
  have t1 := t0.keep hb1
  have b1 := bt b0 hb1
  obtain ⟨q0, q1, q2, q3, q4⟩ := t1
  clear t0 b0 hb1
  go_wp2
  go_region_held3 (fun w' => (w'.cell? ⟨w.heap.size, 0, none⟩ = some (.int .u32 a) ∧ w'.cell? ⟨w.heap.size, 1, none⟩ = some (.int .u32 b) ∧ w'.cell? ⟨w.heap.size, 2, none⟩ = some (.int .u32 c) ∧ w'.cell? ⟨w.heap.size, 3, none⟩ = some (.int .i64 m) ∧ w'.cell? ⟨w.heap.size, 4, none⟩ = some (.int .i64 n)) ∧ Below w.heap.size w w')
    (first | exact three_start ⟨q0, q1, q2, q3, q4⟩ b1 | (refine three_keep hb5 ?_; assumption) | (refine three_keep hb4 ?_; assumption) | (refine three_keep hb3 ?_; assumption) | (refine three_keep hb2 ?_; assumption))
    (first | (go_at_call_of 10 (Value.int IntKind.i64 n); refine (J2.out _).mono ?_; rintro e w3 ⟨rfl, hb3⟩) | (go_at_call 10; refine (J1.out _).mono ?_; rintro e w2 ⟨rfl, hb2⟩) | (go_at_call_of 13 (Value.int IntKind.i64 n); refine (Z2.out _).mono ?_; rintro e w5 ⟨rfl, hb5⟩) | (go_at_call 13; refine (Z1.out _).mono ?_; rintro e w4 ⟨rfl, hb4⟩))
  go_wp2
  go_ret
  exact ⟨rfl, bt (bt (bt (bt b1.drew hb2) hb3) hb4) hb5⟩

set_option maxHeartbeats 1000000 in
theorem round_out (a b c : Nat) (m n : Int) (w : World) (hn : n < 0 ∨ 9223372034707292160 < n) :
    Calls Try.prog 6 #[.agg #[.int .u32 a, .int .u32 b, .int .u32 c, .int .i64 m, .int .i64 n]] w
      fun e w' => e = .returned (.bool true) ∧ Below w.heap.size w w' := by
  rcases hn with hn | hn
  · go_enter Try.func6, Try.ntmps6
    go_wp2_with fail
    obtain ⟨t0, b0⟩ := three_box w a b c m n 30
    refine (fixed_any _).mono ?_
    rintro e w1 ⟨rfl, hb1⟩
    have t1 := t0.keep hb1
    have b1 := bt b0 hb1
    obtain ⟨q0, q1, q2, q3, q4⟩ := t1
    clear t0 b0 hb1
    go_wp2
    go_ret
    exact ⟨rfl, b1⟩
  · have hp : ¬ n < 0 := by omega
    go_enter Try.func6, Try.ntmps6
    go_wp2_with fail
    obtain ⟨t0, b0⟩ := three_box w a b c m n 30
    refine (fixed_any _).mono ?_
    rintro e w1 ⟨rfl, hb1⟩
    have t1 := t0.keep hb1
    have b1 := bt b0 hb1
    obtain ⟨q0, q1, q2, q3, q4⟩ := t1
    clear t0 b0 hb1
    go_wp2
    go_ret
    exact ⟨rfl, b1⟩
theorem round_walk (a b c : Nat) (m n : Int) (w : World) (ha : a < 4294967296) (hb : b < 4294967296) :
    Calls Try.prog 6 #[.agg #[.int .u32 a, .int .u32 b, .int .u32 c, .int .i64 m, .int .i64 n]] w
      fun e w' => e = .returned (.bool true) ∧ Below w.heap.size w w' := by
  by_cases h : n < 0 ∨ 9223372034707292160 < n
  · exact round_out a b c m n w h
  · exact round_in a b c m n w ha hb (by omega) (by omega)

end Go.Proofs.Ytkhdbeambmfdfab
