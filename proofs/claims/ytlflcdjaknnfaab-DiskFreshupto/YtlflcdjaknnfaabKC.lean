import Derived.Test.YtlflcdjaknnfaabVB
import Derived.Test.YtlflcdjaknnfaabKB
import Derived.Laws.CopyOwn
import Derived.Deep.MidRow
import Derived.Stop.BytesEq
namespace Go.Proofs.Ytlflcdjaknnfaab
open Go.RowKit

/-- the cells of a block of zeros -/
def zc : Array Value := (vb zb).toArray
theorem zc_size : zc.size = 512 := by unfold zc; rw [List.size_toArray, vb_length, zb_len]
theorem infoBlk : (Try.prog.info? 72).map (fun i => (i.zero, i.size)) = some (some (.agg (vb zb).toArray), 512) := by kernel_rfl
theorem zeroBlk (w : World) : (zeroValue 72).run Try.prog w = .ok (.agg zc) w := (zero_of_info infoBlk).1 w
theorem sizeBlk {c : Array Value} (h : c.size = 512) : (Try.prog.info? 72).map (·.size) = some c.size := by rw [h]; exact (zero_of_info infoBlk).2
theorem sizeU8 : (Try.prog.info? 5).map (·.size) = some 1 := by kernel_rfl
theorem vb_size {b : List Nat} (h : b.length = 512) : (vb b).toArray.size = 512 := by rw [List.size_toArray, vb_length, h]
theorem vb_all (b : List Nat) : (vb b).toArray.all (·.oneCell') = true := all_oneCell_toArray (vb_one b)
theorem take_blk {l : List Nat} (hl : ∀ x ∈ l, x < 256) (h : 512 ≤ l.length) : Blk (l.take 512) := ⟨by rw [List.length_take]; omega, fun x hx => hl x (List.mem_of_mem_take hx)⟩

set_option maxHeartbeats 1000000 in
theorem blockOf_any (w : World) (a : Option Addr) (n cap : Nat) (l : List Nat) (hB : Bs w a l) (hn : n = l.length) (h5 : 512 ≤ l.length) :
    Calls Try.prog 41 #[.slice a n cap] w fun e w' => e = .returned (.agg (vb (l.take 512)).toArray) ∧ Below w.heap.size w w' := by
  subst hn
  have hz := zeroBlk
  obtain ⟨b, off, rfl, _⟩ := hB.at (j := 0) (by omega)
  have hk := take_blk hB.1 h5
  have HB := hide hB
  clear hB
  have hc : ∀ ty, (Builtin.copy_ #[22, 22] ty #[.slice (some ⟨w.heap.size + 1, 0, none⟩) 512 512, .slice (some ⟨b, off, none⟩) l.length cap]).run Try.prog ((w.alloc (.cells zc 72)).alloc (.cells zc 72)) = .ok (goInt 512) ((w.alloc (.cells zc 72)).alloc (.cells (vb (l.take 512)).toArray 72)) := by
    intro ty
    have hl : (vb (l.take 512)).length = 512 := by rw [vb_length]; exact hk.1
    have hg : ((w.alloc (.cells zc 72)).alloc (.cells zc 72)).heap[w.heap.size + 1]? = some (.cells zc 72 (0, 0)) := by
      have := heap_alloc_last (w.alloc (.cells zc 72)) (.cells zc 72)
      rwa [size_alloc] at this
    have := run_copy_row (P := Try.prog) ((w.alloc (.cells zc 72)).alloc (.cells zc 72)) 22 22 ty 5 (w.heap.size + 1) 0 512 512 ⟨b, off, none⟩ l.length cap zc 72 (vb (l.take 512)) Try.underlying22 sizeU8 hg
      (by rw [hl]; exact (Nat.min_eq_right h5).symm) (by
        intro j v hj
        have hlt : j < (l.take 512).length := by
          have := (List.getElem?_eq_some_iff.1 hj).1
          rwa [vb_length] at this
        rw [vb_get _ j hlt, Option.some.injEq] at hj
        subst hj
        obtain ⟨b', off', e, hc⟩ := byte_at HB.out (((Below.refl _ _).alloc (Nat.le_refl _) (.cells zc 72)).alloc (by rw [size_alloc]; omega) (.cells zc 72)) (j := j) (by rw [List.length_take] at hlt; omega)
        cases e
        rw [Addr.add_mid, hc]
        congr 3
        rw [List.length_take] at hlt
        simp [List.getD_eq_getElem?_getD, show j < 512 by omega]) (by rw [hl, zc_size]; decide) (vb_one _)
    rw [this, hl]
    congr 1
    have e : (zc.toList.take 0 ++ vb (l.take 512) ++ zc.toList.drop (0 + 512)).toArray = (vb (l.take 512)).toArray := by
      rw [List.drop_of_length_le (by rw [Array.length_toList, zc_size]; decide)]
      simp
    rw [e, ← size_alloc w (.cells zc 72), World.setRow_alloc_new]
  go_enter Try.func41, Try.ntmps41
  go_wp2_with (first
    | (refine wpList_load_row rfl 72 _ rfl (w.heap.size + 1) rfl 72 (vb (l.take 512)).toArray (0, 0) _ (heap_alloc2_new _ _ _) Try.underlying72 rfl (sizeBlk (vb_size hk.1)) ?_)
    | (refine wpList_store_row rfl 72 _ _ rfl w.heap.size _ rfl rfl 72 zc (heap_alloc2_old _ _ _) (sizeBlk (vb_size hk.1)) (by rw [zc_size, vb_size hk.1]) (vb_all _) ?_))
  refine bodyPost_ret (v := .agg (vb (l.take 512)).toArray) (results_cell_row Try.results41 _ _ w.heap.size 72 _ (0, 0) _ rfl (setRow_heap _ _ _ _ _ _ (heap_alloc2_old _ _ _)) Try.underlying72 rfl (sizeBlk (vb_size hk.1))) rfl ⟨rfl, ?_⟩
  exact below_setRow (((Below.refl _ _).alloc (Nat.le_refl _) _).alloc (by rw [size_alloc]; omega) _) (Nat.le_refl _) _

set_option maxHeartbeats 1000000 in
theorem list_any (w : World) (b : List Nat) (hb : Blk b) :
    Calls Try.prog 47 #[.agg (vb b).toArray] w fun e w' => e = .returned (.slice (some ⟨w.heap.size + 1, 0, none⟩) 512 512) ∧ Rw w' (some ⟨w.heap.size + 1, 0, none⟩) 512 b ∧ Below w.heap.size w w' := by
  have hmk : ∀ w : World, (Instr.makeSlice 22 (.int .i64 512) (.int .i64 512)).run Try.prog w = .ok (.slice (some ⟨w.heap.size, 0, none⟩) 512 512) (w.alloc (.cells (madeCells #[.int .u8 0] 512) 5)) := make_u8 512 512 (Nat.le_refl _) (by decide)
  obtain ⟨W1, hW1⟩ : ∃ W1, W1 = w.alloc (.cells (vb b).toArray 72) := ⟨_, rfl⟩
  have hs1 : W1.heap.size = w.heap.size + 1 := by rw [hW1, size_alloc]
  have hc : ∀ ty, (Builtin.copy_ #[22, 22] ty #[.slice (some ⟨w.heap.size + 1, 0, none⟩) 512 512, .slice (some ⟨w.heap.size, 0, none⟩) 512 512]).run Try.prog (W1.alloc (.cells (madeCells #[.int .u8 0] 512) 5)) = .ok (goInt 512) (W1.alloc (.cells (vb b).toArray 5)) := by
    intro ty
    have hl : (vb b).length = 512 := by rw [vb_length]; exact hb.1
    have hz : (madeCells #[.int .u8 0] 512).size = 512 := size_madeCells _ _
    have hg : (W1.alloc (.cells (madeCells #[.int .u8 0] 512) 5)).heap[w.heap.size + 1]? = some (.cells (madeCells #[.int .u8 0] 512) 5 (0, 0)) := by
      rw [← hs1]; exact heap_alloc_last _ _
    have := run_copy_row (P := Try.prog) (W1.alloc (.cells (madeCells #[.int .u8 0] 512) 5)) 22 22 ty 5 (w.heap.size + 1) 0 512 512 ⟨w.heap.size, 0, none⟩ 512 512 (madeCells #[.int .u8 0] 512) 5 (vb b) Try.underlying22 sizeU8 hg
      (by rw [hl]; rfl) (by
        intro j v hj
        rw [Addr.add_mid, cell_of_row _ w.heap.size (0 + j) (vb b).toArray 72 (0, 0) (by
          rw [Go.MapKept.heap_alloc _ _ |>.2 _ (by omega), hW1]; exact heap_alloc_last _ _)]
        simpa using hj) (by rw [hl, hz]; decide) (vb_one _)
    rw [this, hl]
    congr 1
    have e : ((madeCells #[.int .u8 0] 512).toList.take 0 ++ vb b ++ (madeCells #[.int .u8 0] 512).toList.drop (0 + 512)).toArray = (vb b).toArray := by
      rw [List.drop_of_length_le (by rw [Array.length_toList, hz]; decide)]
      simp
    rw [e, ← hs1, World.setRow_alloc_new]
  rw [hW1] at hc
  clear hs1 hW1
  go_enter Try.func47, Try.ntmps47
  go_wp2
  go_ret
  refine ⟨rfl, Rw.mk (cur := (vb b).toArray) (heap_alloc2_new _ _ _) (by rw [hb.1]; decide) (by decide) (vb_size hb.1) ?_, ((Below.refl _ _).alloc (Nat.le_refl _) _).alloc (by rw [size_alloc]; omega) _⟩
  rw [List.take_of_length_le (by simp [vb_length])]

theorem vb_cell {b : List Nat} (h : ∀ x ∈ b, x < 256) : vb b = (b.map UInt8.ofNat).map Extern.Stop.cell := by
  unfold vb
  rw [List.map_map]
  apply List.map_congr_left
  intro x hx
  have := h x hx
  simp only [Function.comp, Extern.Stop.cell]
  congr 1
  rw [UInt8.toNat_ofNat', Nat.mod_eq_of_lt (by omega)]
  rfl
theorem eql_blk (w : World) {a b : List Nat} (ha : Blk a) (hb : Blk b) : (Op.equalIn 10000 72 (.agg (vb a).toArray) (.agg (vb b).toArray)).run Try.prog w = .ok (decide (a = b)) w := by
  rw [vb_cell ha.2, vb_cell hb.2, run_equalIn_bytes w 9998 72 5 512 Try.underlying72 Try.underlying5 (fun w => by
    have h := sizeU8
    cases hq : Try.prog.info? 5 with
    | none => rw [hq] at h; cases h
    | some i => rw [hq] at h; simp at h; simp [sizeOf, typeInfo, hq, h]) _ _ (by simp [ha.1]) (by simp [hb.1])]
  congr 1
  rw [Bool.eq_iff_iff, beq_iff_eq, decide_eq_true_iff]
  constructor
  · intro h
    have e : ∀ l : List Nat, (∀ x ∈ l, x < 256) → (l.map UInt8.ofNat).map UInt8.toNat = l := by
      intro l hl
      rw [List.map_map]
      conv => rhs; rw [← List.map_id l]
      apply List.map_congr_left
      intro x hx
      have := hl x hx
      simp only [Function.comp, UInt8.toNat_ofNat', id]
      omega
    rw [← e a ha.2, ← e b hb.2, h]
  · intro h; rw [h]
theorem eql_zero (w : World) {a : List Nat} (ha : Blk a) : (Op.equalIn 10000 72 (.agg (vb a).toArray) (.agg zc)).run Try.prog w = .ok (decide (a = zb)) w := eql_blk w ha Blk.zero
end Go.Proofs.Ytlflcdjaknnfaab
