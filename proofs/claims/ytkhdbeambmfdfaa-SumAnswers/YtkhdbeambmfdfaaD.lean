import Derived.Test.YtkhdbeambmfdfaaC
import Derived.Lib.SlBytesConst
namespace Go.Proofs.Ytkhdbeambmfdfaa
open Go.RowKit

/-- the cells of bytes -/
def bc (l : List Nat) : Array Value := (l.map fun x => Value.int .u8 ((x : Nat) : Int)).toArray
theorem bc_get (l : List Nat) (i : Nat) (h : i < l.length) : (bc l)[i]? = some (.int .u8 ((l.getD i 0 : Nat) : Int)) := by
  simp [bc, h]
theorem Bs_row {w : World} {b : Nat} {l : List Nat} {e : TypeId} {fr : Nat × Nat} (hg : w.heap[b]? = some (.cells (bc l) e fr)) (hl : ∀ x ∈ l, x < 256) (hlen : l.length ≤ 9223372036854775807) :
    Bs w (some ⟨b, 0, none⟩) l :=
  ⟨hl, hlen, .inr ⟨b, 0, rfl, fun i hi => by rw [Nat.zero_add, cell_of_row _ _ _ _ _ _ hg, bc_get l i hi]⟩⟩

theorem of_abc (w : World) (fr : Nat × Nat) : Calls Try.prog 15 #[.slice (some ⟨w.heap.size, 0, none⟩) 9 9] (w.alloc (.cells #[Value.int IntKind.u8 49, Value.int IntKind.u8 50, Value.int IntKind.u8 51, Value.int IntKind.u8 52,
    Value.int IntKind.u8 53, Value.int IntKind.u8 54, Value.int IntKind.u8 55, Value.int IntKind.u8 56, Value.int IntKind.u8 57] 5 fr)) fun e w' => e = .returned (.int .u32 3808858755) ∧ Below w.heap.size w w' := by
  refine (Of_any (some ⟨w.heap.size, 0, none⟩) 9 9 [49, 50, 51, 52, 53, 54, 55, 56, 57] _ (Bs_row (heap_alloc_new _ _) (by decide) (by decide)) rfl).mono ?_
  rintro e w1 ⟨rfl, hb⟩
  rw [M.fix1]
  exact ⟨rfl, ((Below.refl _ _).alloc (Nat.le_refl _) _).trans (hb.mono (by rw [size_alloc]; omega))⟩
theorem more_a (w : World) (fr : Nat × Nat) : Calls Try.prog 17 #[.int .u32 0, .slice (some ⟨w.heap.size, 0, none⟩) 1 1] (w.alloc (.cells #[Value.int IntKind.u8 97] 5 fr)) fun e w' => e = .returned (.int .u32 3251651376) ∧ Below w.heap.size w w' := by
  refine (More_any 0 (some ⟨w.heap.size, 0, none⟩) 1 1 [97] _ (by decide) (Bs_row (heap_alloc_new _ _) (by decide) (by decide)) rfl).mono ?_
  rintro e w1 ⟨rfl, hb⟩
  rw [M.fix2]
  exact ⟨rfl, ((Below.refl _ _).alloc (Nat.le_refl _) _).trans (hb.mono (by rw [size_alloc]; omega))⟩
theorem join_1 (w : World) : Calls Try.prog 19 #[.int .u32 1, .int .u32 0, .int .i64 1] w fun e w' => e = .returned (.int .u32 4067132163) ∧ Below w.heap.size w w' := by
  refine (Join_any 1 0 1 w (by decide) (by decide) (by decide)).mono ?_
  rintro e w1 ⟨rfl, hb⟩
  rw [show (1 : Int).toNat = 1 from rfl, M.fix3]
  exact ⟨rfl, hb⟩
theorem zeros_32 (w : World) : Calls Try.prog 21 #[.int .i64 32] w fun e w' => e = .returned (.int .u32 2324772522) ∧ Below w.heap.size w w' := by
  refine (Zeros_any 32 w (by decide)).mono ?_
  rintro e w1 ⟨rfl, hb⟩
  rw [show (32 : Int).toNat = 32 from rfl, M.fix4]
  exact ⟨rfl, hb⟩

set_option maxHeartbeats 400000 in
theorem fixed_any (w : World) :
    Calls Try.prog 9 #[] w fun e w' => e = .returned (.bool true) ∧ Below w.heap.size w w' := by
  have kc := fun (w : World) (C : Array Value) (n c : Nat) => Lib.run_convert_bytes_const (P := Try.prog) w 25 5 C n c Try.underlying25 Try.underlying5
  go_enter Try.func9, Try.ntmps9
  go_wp2_with fail
  refine (of_abc w _).mono ?_
  rintro e w1 ⟨rfl, hb1⟩
  go_wp2_with fail
  refine (more_a w1 _).mono ?_
  rintro e w2 ⟨rfl, hb2⟩
  go_wp2_with fail
  refine (join_1 w2).mono ?_
  rintro e w3 ⟨rfl, hb3⟩
  go_wp2_with fail
  refine (zeros_32 w3).mono ?_
  rintro e w4 ⟨rfl, hb4⟩
  go_wp2
  go_ret
  exact ⟨rfl, ((hb1.trans (hb2.mono hb1.size)).trans (hb3.mono (Nat.le_trans hb1.size hb2.size))).trans (hb4.mono (Nat.le_trans (Nat.le_trans hb1.size hb2.size) hb3.size))⟩
end Go.Proofs.Ytkhdbeambmfdfaa
