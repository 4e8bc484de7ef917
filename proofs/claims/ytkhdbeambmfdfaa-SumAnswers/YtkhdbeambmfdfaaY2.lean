import Derived.Test.YtkhdbeambmfdfaaJ
import Derived.Test.YtkhdbeambmfdfaaE
namespace Go.Proofs.Ytkhdbeambmfdfaa
open Go.RowKit

/-- the answer to a call -/
def ans (kind : Int) (s t : Nat) (n : Int) (l : List Nat) : Nat := if kind = 0 then M.of l else if kind = 1 then M.more s l else if kind = 2 then M.join s t n.toNat else M.zeros n.toNat

set_option maxHeartbeats 1000000 in
theorem asked_0 (kind : Int) (s t : Nat) (n : Int) (ao : Option Addr) (lo co : Nat) (ab : Option Addr) (m cb : Nat) (l : List Nat) (w : World) (hB : Bs w ab l) (hm : m = l.length) (hk : kind = 0) :
    Calls Try.prog 11 #[.agg #[.int .i64 kind, .int .u32 s, .int .u32 t, .int .i64 n, .slice ao lo co], .slice ab m cb] w fun e w' => e = .returned (.int .u32 (M.of l : Nat)) ∧ Below w.heap.size w w' := by
  subst hk hm
  have b0 := (Below.refl _ w).alloc (Nat.le_refl _) (.cells #[.int .i64 0, .int .u32 s, .int .u32 t, .int .i64 n, .slice ao lo co] 27)
  have hB1 := hB.keep b0
  go_enter Try.func11, Try.ntmps11
  go_wp2_with fail
  refine (Of_any ab l.length cb l _ hB1 rfl).mono ?_
  rintro e w1 ⟨rfl, hb1⟩
  go_wp2
  go_ret
  exact ⟨rfl, bt b0 hb1⟩

set_option maxHeartbeats 1000000 in
theorem asked_1 (kind : Int) (s t : Nat) (n : Int) (ao : Option Addr) (lo co : Nat) (ab : Option Addr) (m cb : Nat) (l : List Nat) (w : World) (hs : s < 4294967296) (hB : Bs w ab l) (hm : m = l.length) (hk : kind = 1) :
    Calls Try.prog 11 #[.agg #[.int .i64 kind, .int .u32 s, .int .u32 t, .int .i64 n, .slice ao lo co], .slice ab m cb] w fun e w' => e = .returned (.int .u32 (M.more s l : Nat)) ∧ Below w.heap.size w w' := by
  subst hk hm
  have b0 := (Below.refl _ w).alloc (Nat.le_refl _) (.cells #[.int .i64 1, .int .u32 s, .int .u32 t, .int .i64 n, .slice ao lo co] 27)
  have hB1 := hB.keep b0
  go_enter Try.func11, Try.ntmps11
  go_wp2_with fail
  refine (More_any s ab l.length cb l _ hs hB1 rfl).mono ?_
  rintro e w1 ⟨rfl, hb1⟩
  go_wp2
  go_ret
  exact ⟨rfl, bt b0 hb1⟩

set_option maxHeartbeats 1000000 in
theorem asked_2 (kind : Int) (s t : Nat) (n : Int) (ao : Option Addr) (lo co : Nat) (ab : Option Addr) (m cb : Nat) (w : World) (hs : s < 4294967296) (ht : t < 4294967296) (hn : n ≤ 9223372036854775807) (hk : kind = 2) :
    Calls Try.prog 11 #[.agg #[.int .i64 kind, .int .u32 s, .int .u32 t, .int .i64 n, .slice ao lo co], .slice ab m cb] w fun e w' => e = .returned (.int .u32 (M.join s t n.toNat : Nat)) ∧ Below w.heap.size w w' := by
  subst hk
  have b0 := (Below.refl _ w).alloc (Nat.le_refl _) (.cells #[.int .i64 2, .int .u32 s, .int .u32 t, .int .i64 n, .slice ao lo co] 27)
  go_enter Try.func11, Try.ntmps11
  go_wp2_with fail
  refine (Join_any s t n _ hs ht hn).mono ?_
  rintro e w1 ⟨rfl, hb1⟩
  go_wp2
  go_ret
  exact ⟨rfl, bt b0 hb1⟩

set_option maxHeartbeats 1000000 in
theorem asked_3 (kind : Int) (s t : Nat) (n : Int) (ao : Option Addr) (lo co : Nat) (ab : Option Addr) (m cb : Nat) (w : World) (hn : n ≤ 9223372036854775807) (hk0 : kind ≠ 0) (hk1 : kind ≠ 1) (hk2 : kind ≠ 2) :
    Calls Try.prog 11 #[.agg #[.int .i64 kind, .int .u32 s, .int .u32 t, .int .i64 n, .slice ao lo co], .slice ab m cb] w fun e w' => e = .returned (.int .u32 (M.zeros n.toNat : Nat)) ∧ Below w.heap.size w w' := by
  have g0 : (kind == 0) = false := by rw [beq_eq_false_iff_ne]; exact hk0
  have g1 : (kind == 1) = false := by rw [beq_eq_false_iff_ne]; exact hk1
  have g2 : (kind == 2) = false := by rw [beq_eq_false_iff_ne]; exact hk2
  clear hk0 hk1 hk2
  have b0 := (Below.refl _ w).alloc (Nat.le_refl _) (.cells #[.int .i64 kind, .int .u32 s, .int .u32 t, .int .i64 n, .slice ao lo co] 27)
  go_enter Try.func11, Try.ntmps11
  go_wp2_with fail
  refine (Zeros_any n _ hn).mono ?_
  rintro e w1 ⟨rfl, hb1⟩
  go_wp2
  go_ret
  exact ⟨rfl, bt b0 hb1⟩

theorem asked_any (kind : Int) (s t : Nat) (n : Int) (ao : Option Addr) (lo co : Nat) (ab : Option Addr) (m cb : Nat) (l : List Nat) (w : World) (hs : s < 4294967296) (ht : t < 4294967296) (hn : n ≤ 9223372036854775807) (hB : Bs w ab l) (hm : m = l.length) :
    Calls Try.prog 11 #[.agg #[.int .i64 kind, .int .u32 s, .int .u32 t, .int .i64 n, .slice ao lo co], .slice ab m cb] w fun e w' => e = .returned (.int .u32 (ans kind s t n l : Nat)) ∧ Below w.heap.size w w' := by
  unfold ans
  by_cases h0 : kind = 0
  · rw [if_pos h0]; exact asked_0 kind s t n ao lo co ab m cb l w hB hm h0
  · rw [if_neg h0]
    by_cases h1 : kind = 1
    · rw [if_pos h1]; exact asked_1 kind s t n ao lo co ab m cb l w hs hB hm h1
    · rw [if_neg h1]
      by_cases h2 : kind = 2
      · rw [if_pos h2]; exact asked_2 kind s t n ao lo co ab m cb w hs ht hn h2
      · rw [if_neg h2]; exact asked_3 kind s t n ao lo co ab m cb w hn h0 h1 h2

set_option maxHeartbeats 1000000 in
theorem told_0 (kind : Int) (s t : Nat) (n : Int) (ao : Option Addr) (lo co : Nat) (ab : Option Addr) (m cb : Nat) (l : List Nat) (w : World) (hB : Bs w ab l) (hm : m = l.length) (hk : kind = 0) :
    Calls Try.prog 12 #[.agg #[.int .i64 kind, .int .u32 s, .int .u32 t, .int .i64 n, .slice ao lo co], .slice ab m cb] w fun e w' => e = .returned (.int .u32 (M.of l : Nat)) ∧ Below w.heap.size w w' := by
  subst hk hm
  have b0 := (Below.refl _ w).alloc (Nat.le_refl _) (.cells #[.int .i64 0, .int .u32 s, .int .u32 t, .int .i64 n, .slice ao lo co] 27)
  have hB1 := hB.keep b0
  go_enter Try.func12, Try.ntmps12
  go_wp2_with fail
  refine (rOf_any ab l.length cb l _ hB1 rfl).mono ?_
  rintro e w1 ⟨rfl, rfl⟩
  go_wp2
  go_ret
  exact ⟨rfl, b0⟩

set_option maxHeartbeats 1000000 in
theorem told_1 (kind : Int) (s t : Nat) (n : Int) (ao : Option Addr) (lo co : Nat) (ab : Option Addr) (m cb : Nat) (l : List Nat) (w : World) (hs : s < 4294967296) (hB : Bs w ab l) (hm : m = l.length) (hk : kind = 1) :
    Calls Try.prog 12 #[.agg #[.int .i64 kind, .int .u32 s, .int .u32 t, .int .i64 n, .slice ao lo co], .slice ab m cb] w fun e w' => e = .returned (.int .u32 (M.more s l : Nat)) ∧ Below w.heap.size w w' := by
  subst hk hm
  have b0 := (Below.refl _ w).alloc (Nat.le_refl _) (.cells #[.int .i64 1, .int .u32 s, .int .u32 t, .int .i64 n, .slice ao lo co] 27)
  have hB1 := hB.keep b0
  go_enter Try.func12, Try.ntmps12
  go_wp2_with fail
  refine (rMore_any s ab l.length cb l _ hs hB1 rfl).mono ?_
  rintro e w1 ⟨rfl, rfl⟩
  go_wp2
  go_ret
  exact ⟨rfl, b0⟩

set_option maxHeartbeats 1000000 in
theorem told_2 (kind : Int) (s t : Nat) (n : Int) (ao : Option Addr) (lo co : Nat) (ab : Option Addr) (m cb : Nat) (w : World) (hs : s < 4294967296) (ht : t < 4294967296) (hn : n ≤ 9223372036854775807) (hk : kind = 2) :
    Calls Try.prog 12 #[.agg #[.int .i64 kind, .int .u32 s, .int .u32 t, .int .i64 n, .slice ao lo co], .slice ab m cb] w fun e w' => e = .returned (.int .u32 (M.join s t n.toNat : Nat)) ∧ Below w.heap.size w w' := by
  subst hk
  have b0 := (Below.refl _ w).alloc (Nat.le_refl _) (.cells #[.int .i64 2, .int .u32 s, .int .u32 t, .int .i64 n, .slice ao lo co] 27)
  go_enter Try.func12, Try.ntmps12
  go_wp2_with fail
  refine (rJoin_any s t n _ hs ht hn).mono ?_
  rintro e w1 ⟨rfl, hb1⟩
  go_wp2
  go_ret
  exact ⟨rfl, bt b0 hb1⟩

set_option maxHeartbeats 1000000 in
theorem told_3 (kind : Int) (s t : Nat) (n : Int) (ao : Option Addr) (lo co : Nat) (ab : Option Addr) (m cb : Nat) (w : World) (hn : n ≤ 9223372036854775807) (hk0 : kind ≠ 0) (hk1 : kind ≠ 1) (hk2 : kind ≠ 2) :
    Calls Try.prog 12 #[.agg #[.int .i64 kind, .int .u32 s, .int .u32 t, .int .i64 n, .slice ao lo co], .slice ab m cb] w fun e w' => e = .returned (.int .u32 (M.zeros n.toNat : Nat)) ∧ Below w.heap.size w w' := by
  have g0 : (kind == 0) = false := by rw [beq_eq_false_iff_ne]; exact hk0
  have g1 : (kind == 1) = false := by rw [beq_eq_false_iff_ne]; exact hk1
  have g2 : (kind == 2) = false := by rw [beq_eq_false_iff_ne]; exact hk2
  clear hk0 hk1 hk2
  have b0 := (Below.refl _ w).alloc (Nat.le_refl _) (.cells #[.int .i64 kind, .int .u32 s, .int .u32 t, .int .i64 n, .slice ao lo co] 27)
  go_enter Try.func12, Try.ntmps12
  go_wp2_with fail
  refine (rZeros_any n _ hn).mono ?_
  rintro e w1 ⟨rfl, hb1⟩
  go_wp2
  go_ret
  exact ⟨rfl, bt b0 hb1⟩

theorem told_any (kind : Int) (s t : Nat) (n : Int) (ao : Option Addr) (lo co : Nat) (ab : Option Addr) (m cb : Nat) (l : List Nat) (w : World) (hs : s < 4294967296) (ht : t < 4294967296) (hn : n ≤ 9223372036854775807) (hB : Bs w ab l) (hm : m = l.length) :
    Calls Try.prog 12 #[.agg #[.int .i64 kind, .int .u32 s, .int .u32 t, .int .i64 n, .slice ao lo co], .slice ab m cb] w fun e w' => e = .returned (.int .u32 (ans kind s t n l : Nat)) ∧ Below w.heap.size w w' := by
  unfold ans
  by_cases h0 : kind = 0
  · rw [if_pos h0]; exact told_0 kind s t n ao lo co ab m cb l w hB hm h0
  · rw [if_neg h0]
    by_cases h1 : kind = 1
    · rw [if_pos h1]; exact told_1 kind s t n ao lo co ab m cb l w hs hB hm h1
    · rw [if_neg h1]
      by_cases h2 : kind = 2
      · rw [if_pos h2]; exact told_2 kind s t n ao lo co ab m cb w hs ht hn h2
      · rw [if_neg h2]; exact told_3 kind s t n ao lo co ab m cb w hn h0 h1 h2
end Go.Proofs.Ytkhdbeambmfdfaa
