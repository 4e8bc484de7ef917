import Derived.Test.YtlneomgjjkfnoabGreatPQB
import Derived.Test.YtlneomgjjkfnoabGreatPOF
import Derived.Test.YtlneomgjjkfnoabGreatPLF
import Derived.Test.YtlneomgjjkfnoabGreatPIB
import Derived.Test.YtlneomgjjkfnoabGreatPMX
import Derived.Lib.SlBytesConst
namespace Go.Proofs.YtlneomgjjkfnoabGreat
open Go.RowKit

/-- bytes in a block -/
theorem bs_row {w : World} {g : Nat} {t : TypeId} {l : List Nat} (h : Bx w t g (vb l).toArray) (h8 : B8 l) (hl : l.length ≤ 9223372036854775807) : Bs w (some ⟨g, 0, none⟩) l :=
  ⟨h8, hl, .inr ⟨g, 0, rfl, fun i hi => by rw [Nat.zero_add, cell_of_row _ _ _ _ _ _ h]; have := vb_get l i hi; simpa using this⟩⟩
theorem lit (w : World) (l : List Nat) (t : TypeId) (fr : Nat × Nat) {g : Nat} (hg : w.heap.size = g) (hl : B8 l) (hn : l.length ≤ 1000) : Bs (w.alloc (.cells (vb l).toArray t fr)) (some ⟨g, 0, none⟩) l := by
  subst hg
  refine ⟨hl, by omega, .inr ⟨w.heap.size, 0, rfl, fun i hi => ?_⟩⟩
  rw [cell_of_row _ _ _ _ _ _ (heap_alloc_new _ _), Nat.zero_add, ← vb_get l i hi]
  simp
theorem lit1 (w : World) (fr : Nat × Nat) (x : Nat) (t : TypeId) {g : Nat} (hg : w.heap.size = g) (hl : x < 256) : Bs (w.alloc (.cells #[.int .u8 (x : Int)] t fr)) (some ⟨g, 0, none⟩) [x] := lit w [x] t fr hg (by simpa [B8] using hl) (by simp)
/-- a page with one item -/
theorem pi_one {w : World} {g : Nat} {t : TypeId} {kind level next : Int} {x : Iv} (h : Bx w t g x.cs) (hx : Ii w x) (nk : N64 kind) (nl : N64 level) (nn : N64 next) : Pi w ⟨kind, level, some ⟨g, 0, none⟩, 1, [x], none, 0, [], next⟩ := by
  refine ⟨⟨fun r hr => by rw [List.mem_singleton.1 hr]; exact hx, by simp, .inr ⟨g, 0, rfl, fun r hr j u hu => ?_⟩⟩, Nat.le_refl _, Bs.nil w, Nat.le_refl _, nk, nl, nn⟩
  obtain rfl : r = 0 := by simpa using hr
  rw [cell_of_row _ _ _ _ _ _ h]
  simpa using hu
def LeafQ (w : World) (e : Ending) (w' : World) : Prop := ∃ P : Pv, e = .returned P.vl ∧ P.pg = leafP ∧ Pi w' P ∧ Below w.heap.size w w'
def leafI (g : Nat) : Iv := ⟨some ⟨g + 1, 0, none⟩, 1, [97], some ⟨g + 1 + 1, 0, none⟩, 1, [120], 0, 1⟩
def leafV (g : Nat) : Pv := ⟨1, 0, some ⟨g + 1 + 1 + 1, 0, none⟩, 1, [leafI g], none, 0, [], 0⟩
def leafW (w : World) : World := (((w.alloc (.cells #[.int .i64 1, .int .i64 0, .slice (some ⟨w.heap.size + 1 + 1 + 1, 0, none⟩) 1 1, .slice none 0 0, .int .i64 0] 27)).alloc (.cells #[.int .u8 97] 5 (1, 2))).alloc (.cells #[.int .u8 120] 5 (1, 2))).alloc (.cells #[.slice (some ⟨w.heap.size + 1, 0, none⟩) 1 1, .slice (some ⟨w.heap.size + 1 + 1, 0, none⟩) 1 1, .int .i64 0, .int .i64 1] 55)
theorem leaf_mem (w : World) : Bx (leafW w) 27 w.heap.size #[.int .i64 1, .int .i64 0, .slice (some ⟨w.heap.size + 1 + 1 + 1, 0, none⟩) 1 1, .slice none 0 0, .int .i64 0] ∧ Pi (leafW w) (leafV w.heap.size) ∧ Below w.heap.size w (leafW w) := by
  unfold leafW
  generalize hA : Obj.cells #[.int .i64 1, .int .i64 0, .slice (some ⟨w.heap.size + 1 + 1 + 1, 0, none⟩) 1 1, .slice none 0 0, .int .i64 0] 27 (0, 0) = A
  have b1 := lit1 (w.alloc A) (1, 2) 97 5 (g := w.heap.size + 1) (size_alloc _ _) (by decide)
  have b2 := lit1 ((w.alloc A).alloc (.cells #[.int .u8 97] 5 (1, 2))) (1, 2) 120 5 (g := w.heap.size + 1 + 1) (by rw [size_alloc, size_alloc]) (by decide)
  have b3 := Bx.new (((w.alloc A).alloc (.cells #[.int .u8 97] 5 (1, 2))).alloc (.cells #[.int .u8 120] 5 (1, 2))) 55 (leafI w.heap.size).cs
  rw [size_alloc, size_alloc, size_alloc] at b3
  refine ⟨?_, pi_one b3 ⟨(b1.keep (al _ _)).keep (al _ _), Nat.le_refl _, b2.keep (al _ _), Nat.le_refl _, by simp [N64, leafI], by simp [N64, leafI]⟩ (by simp [N64]) (by simp [N64]) (by simp [N64]), bt (bt (bt (al _ _) (al _ _)) (al _ _)) (al _ _)⟩
  subst hA
  exact (((Bx.new w 27 _).keep (al _ _)).keep (al _ _)).keep (al _ _)
set_option maxRecDepth 8000 in
set_option maxHeartbeats 1600000 in
theorem leaf_any (w : World) : Calls Tryz.prog 20 #[] w (LeafQ w) := by
  have hcv : ∀ (W : World) (C : Array Value) (n c g : Nat), W.heap.size = g → (convert 25 25 (.slice (some ⟨g, 0, none⟩) n c)).run Tryz.prog (W.alloc (.cells C 5)) = .ok (.slice (some ⟨g, 0, none⟩) n c) (W.alloc (.cells C 5 (C.size, C.size + 1))) := by
    intro W C n c g hg
    subst hg
    exact Lib.run_convert_bytes_const W 25 5 C n c Tryz.underlying25 Tryz.underlying5
  go_enter Tryz.func20, Tryz.ntmps20
  go_wp2
  have q := leaf_mem w
  clear hcv
  refine bodyPost_ret (v := .agg _) (results_cell_row Tryz.results20 _ _ w.heap.size 27 _ (0, 0) _ rfl q.1 Tryz.underlying27 rfl sizePage) rfl ?_
  exact ⟨leafV w.heap.size, rfl, rfl, q.2.1, q.2.2⟩
end Go.Proofs.YtlneomgjjkfnoabGreat
