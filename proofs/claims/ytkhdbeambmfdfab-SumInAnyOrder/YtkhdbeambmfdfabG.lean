import Derived.Test.YtkhdbeambmfdfabE
import Derived.Deep.RegionHeld3
import Derived.Deep.DrawnRows
namespace Go.Proofs.Ytkhdbeambmfdfab
open Go.RowKit
attribute [local go_sem ↓] Go.wp_at_zero Go.wp_at_succ

/-- a struct of three numbers and two lengths in a block -/
abbrev ThreeAt (w : World) (k : Nat) (a b c : Nat) (m n : Int) : Prop :=
  w.cell? ⟨k, 0, none⟩ = some (.int .u32 a) ∧ w.cell? ⟨k, 1, none⟩ = some (.int .u32 b) ∧ w.cell? ⟨k, 2, none⟩ = some (.int .u32 c) ∧ w.cell? ⟨k, 3, none⟩ = some (.int .i64 m) ∧ w.cell? ⟨k, 4, none⟩ = some (.int .i64 n)
theorem ThreeAt.keep {w w' : World} {k a b c : Nat} {m n : Int} (h : ThreeAt w k a b c m n) (hb : Below w.heap.size w w') : ThreeAt w' k a b c m n := by
  obtain ⟨h0, h1, h2, h3, h4⟩ := h
  have hk := block_lt_of_cell h0
  exact ⟨(hb.cell (p := ⟨k, 0, none⟩) hk).trans h0, (hb.cell (p := ⟨k, 1, none⟩) hk).trans h1, (hb.cell (p := ⟨k, 2, none⟩) hk).trans h2, (hb.cell (p := ⟨k, 3, none⟩) hk).trans h3, (hb.cell (p := ⟨k, 4, none⟩) hk).trans h4⟩
theorem ThreeAt.row {w : World} {k a b c : Nat} {m n : Int} {t : TypeId} {fr : Nat × Nat} (h : w.heap[k]? = some (.cells #[.int .u32 a, .int .u32 b, .int .u32 c, .int .i64 m, .int .i64 n] t fr)) : ThreeAt w k a b c m n := by
  refine ⟨?_, ?_, ?_, ?_, ?_⟩ <;> (rw [cell_of_row _ _ _ _ _ _ h]; rfl)

theorem noCarry_start (w : World) (a b c d f g : Nat) (m n p q : Int) (t : TypeId) :
    ThreeAt ((w.alloc (.cells #[.int .u32 a, .int .u32 b, .int .u32 c, .int .i64 m, .int .i64 n] t)).alloc (.cells #[.int .u32 d, .int .u32 f, .int .u32 g, .int .i64 p, .int .i64 q] t)).drew w.heap.size a b c m n
    ∧ ThreeAt ((w.alloc (.cells #[.int .u32 a, .int .u32 b, .int .u32 c, .int .i64 m, .int .i64 n] t)).alloc (.cells #[.int .u32 d, .int .u32 f, .int .u32 g, .int .i64 p, .int .i64 q] t)).drew (w.heap.size + 1) d f g p q
    ∧ Below w.heap.size w ((w.alloc (.cells #[.int .u32 a, .int .u32 b, .int .u32 c, .int .i64 m, .int .i64 n] t)).alloc (.cells #[.int .u32 d, .int .u32 f, .int .u32 g, .int .i64 p, .int .i64 q] t)).drew :=
  ⟨ThreeAt.row (heap_alloc2_old _ _ _), ThreeAt.row (heap_alloc2_new _ _ _), (((Below.refl _ _).alloc (Nat.le_refl _) _).alloc (by rw [size_alloc]; omega) _).drew⟩
theorem noCarry_keep {w W W' : World} {a b c d f g k : Nat} {m n p q : Int} (hb : Below W.heap.size W W') (h : ThreeAt W w.heap.size a b c m n ∧ ThreeAt W k d f g p q ∧ Below w.heap.size w W) :
    ThreeAt W' w.heap.size a b c m n ∧ ThreeAt W' k d f g p q ∧ Below w.heap.size w W' :=
  ⟨h.1.keep hb, h.2.1.keep hb, bt h.2.2 hb⟩

set_option maxRecDepth 100000 in
set_option maxHeartbeats 4000000 in
theorem noCarry_walk (a b c d f g : Nat) (m n p q : Int) (w : World) (ha : a < 4294967296) (hb : b < 4294967296) (hd : d < 4294967296) (hf : f < 4294967296) (hn : n ≤ 9223372036854775807) :
    Calls Try.prog 5 #[.agg #[.int .u32 a, .int .u32 b, .int .u32 c, .int .i64 m, .int .i64 n], .agg #[.int .u32 d, .int .u32 f, .int .u32 g, .int .i64 p, .int .i64 q]] w
      fun e w' => e = .returned (.bool true) ∧ Below w.heap.size w w' := by
  have e1 := xor32 a d ha hd
  have e2 := xor32 b f hb hf
  have hx : a ^^^ d < 4294967296 := Nat.xor_lt_two_pow (n := 32) ha hd
  have hy : b ^^^ f < 4294967296 := Nat.xor_lt_two_pow (n := 32) hb hf
  have e3 := xor32 _ _ (M.join_lt (n := n.toNat) ha hb) (M.join_lt (n := n.toNat) hd hf)
  rw [← M.join_xor] at e3
  have J1 := hide fun W => Join_any (a ^^^ d) (b ^^^ f) n W hx hy hn
  have J2 := hide fun W => Join_any a b n W ha hb hn
  have J3 := hide fun W => Join_any d f n W hd hf hn
  generalize M.join (a ^^^ d) (b ^^^ f) n.toNat = j1 at *
  generalize M.join a b n.toNat = j2 at *
  generalize M.join d f n.toNat = j3 at *
  generalize a ^^^ d = x at *
  generalize b ^^^ f = y at *
  clear hx hy ha hb hd hf hn
  go_enter Try.func5, Try.ntmps5
  go_wp2
  go_region_held3 (fun w' => (w'.cell? ⟨w.heap.size, 0, none⟩ = some (.int .u32 a) ∧ w'.cell? ⟨w.heap.size, 1, none⟩ = some (.int .u32 b) ∧ w'.cell? ⟨w.heap.size, 2, none⟩ = some (.int .u32 c) ∧ w'.cell? ⟨w.heap.size, 3, none⟩ = some (.int .i64 m) ∧ w'.cell? ⟨w.heap.size, 4, none⟩ = some (.int .i64 n))
      ∧ (w'.cell? ⟨w.heap.size + 1, 0, none⟩ = some (.int .u32 d) ∧ w'.cell? ⟨w.heap.size + 1, 1, none⟩ = some (.int .u32 f) ∧ w'.cell? ⟨w.heap.size + 1, 2, none⟩ = some (.int .u32 g) ∧ w'.cell? ⟨w.heap.size + 1, 3, none⟩ = some (.int .i64 p) ∧ w'.cell? ⟨w.heap.size + 1, 4, none⟩ = some (.int .i64 q)) ∧ Below w.heap.size w w')
    (first | exact noCarry_start w a b c d f g m n p q _ | (refine noCarry_keep hb4 ?_; assumption) | (refine noCarry_keep hb3 ?_; assumption) | (refine noCarry_keep hb2 ?_; assumption) | (refine noCarry_keep hb1 ?_; assumption))
    (first | (go_at_call 9; refine (fixed_any _).mono ?_; rintro e w1 ⟨rfl, hb1⟩) | (go_at_call_of 10 (Value.int IntKind.u32 (x : Int)); refine (J1.out _).mono ?_; rintro e w2 ⟨rfl, hb2⟩) | (go_at_call_of 10 (Value.int IntKind.u32 (a : Int)); refine (J2.out _).mono ?_; rintro e w3 ⟨rfl, hb3⟩) | (go_at_call_of 10 (Value.int IntKind.u32 (d : Int)); refine (J3.out _).mono ?_; rintro e w4 ⟨rfl, hb4⟩))
  go_wp2
  go_ret
  exact ⟨rfl, bt (bt (bt (bt (noCarry_start w a b c d f g m n p q _).2.2 hb1) hb2) hb3) hb4⟩
end Go.Proofs.Ytkhdbeambmfdfab
