import Derived.Test.YtkhdbeambmfdfaaProg
import Derived.Test.YtkhdbeambmfdfaaN
import Derived.WalkKit
import Derived.WalkSpells
import Derived.WalkLawsBesides
import Derived.Laws.Rows
import Derived.Laws.Tables
import Derived.Deep.WholeRow
import Derived.Below
import Derived.Outline
namespace Go.Proofs.Ytkhdbeambmfdfaa
open Go.RowKit

/-- the cells of a matrix -/
def mc (m : Nat → Nat) : Array Value := ((List.range 32).map fun i => Value.int .u32 (m i : Int)).toArray
theorem mc_size (m : Nat → Nat) : (mc m).size = 32 := by simp [mc]
theorem mc_get (m : Nat → Nat) (i : Nat) (h : i < 32) : (mc m)[i]? = some (.int .u32 (m i : Int)) := by
  simp [mc, h]
theorem mc_one (m : Nat → Nat) : (mc m).all (·.oneCell') = true := by
  rw [Array.all_eq_true_iff_forall_mem]
  intro x hx
  simp only [mc, List.mem_toArray, List.mem_map] at hx
  obtain ⟨i, _, rfl⟩ := hx
  rfl
theorem mc_ext (m m' : Nat → Nat) (h : ∀ i, i < 32 → m i = m' i) : mc m = mc m' := by
  unfold mc
  congr 1
  apply List.map_congr_left
  intro i hi
  rw [h i (List.mem_range.1 hi)]

theorem run_index_mat (m : Nat → Nat) (i : Int) (h0 : 0 ≤ i) (h1 : i < 32) (w : World) :
    (Instr.index 48 (.agg (mc m)) (.int .i64 i)).run Try.prog w = .ok (.int .u32 (m i.toNat : Int)) w := by
  have hg := mc_get m i.toNat (by omega)
  have hs : (sizeOf 24).run Try.prog w = .ok 1 w := by kernel_rfl
  simp [Instr.index, run_underlying Try.underlying48, asIntOf, part, h0, h1, hs, hg, go_sem]

theorem info_mat (m : Nat → Nat) : (Try.prog.info? 48).map (·.size) = some (mc m).size := by rw [mc_size]; kernel_rfl

set_option maxHeartbeats 400000 in
theorem times_any (m : Nat → Nat) (s : Nat) (w : World) (hs : s < 4294967296) (hm : ∀ i, i < 32 → m i < 4294967296) :
    Calls Try.prog 29 #[.agg (mc m), .int .u32 s] w fun e w' => e = .returned (.int .u32 (M.tmTo m s 32 : Nat)) ∧ Below w.heap.size w w' := by
  go_enter Try.func29, Try.ntmps29
  go_wp2_with (refine wpList_load_row rfl 48 _ rfl w.heap.size rfl 48 (mc m) (0, 0) _ (heap_alloc_new _ _) Try.underlying48 rfl (info_mat m) ?_)
  go_loop [1, 5, 9] (fun x t i => ∃ k : Nat, k ≤ 32 ∧ i = .int .i64 k ∧ x = .int .u32 ((s / 2 ^ k : Nat) : Int) ∧ t = .int .u32 ((M.tmTo m s k : Nat) : Int)) (fun _ _ i => 32 - (intOf i).toNat)
  case atStart => exact ⟨0, Nat.zero_le _, rfl, by simp, rfl⟩
  case round =>
    obtain ⟨k, hk, rfl, rfl, rfl⟩ := hrel
    have htl := M.tmTo_lt m s hm k hk
    by_cases hlt : k < 32
    · have hidx := run_index_mat m (k : Int) (by omega) (by omega)
      go_wp2
      · have ho := odd_of hs ‹_›
        go_round
        case rel => exact ⟨k + 1, by omega, by go_num, int_eq (shr_succ s k), int_eq (by rw [tm_odd ho]; exact xor32 _ _ htl (hm k hlt))⟩
        case measure => simp [intOf]; omega
      · have ho := even_of hs ‹_›
        go_round
        case rel => exact ⟨k + 1, by omega, by go_num, int_eq (shr_succ s k), int_eq (by rw [tm_even ho])⟩
        case measure => simp [intOf]; omega
    · obtain rfl : k = 32 := by omega
      go_wp2
      go_ret
      exact ⟨rfl, (Below.refl _ _).alloc (Nat.le_refl _) _⟩

theorem below_setRow {B : Nat} {a w : World} (h : Below B a w) {g : Nat} (hg : B ≤ g) (cs : Array Value) : Below B a (w.setRow g cs) :=
  ⟨h.os, h.tape, h.output, by rw [setRow_size]; exact h.size, fun k hk => (setRow_other w g k cs (by omega)).trans (h.block k hk)⟩
/-- a block of 32 numbers -/
def Mat (w : World) (b : Nat) (m : Nat → Nat) : Prop := w.heap[b]? = some (.cells (mc m) 48 (0, 0))
theorem Mat.cell {w : World} {b : Nat} {m : Nat → Nat} (h : Mat w b m) {i : Nat} (hi : i < 32) : w.cell? ⟨b, i, none⟩ = some (.int .u32 (m i : Int)) := by
  rw [cell_of_row w b i _ _ _ h, mc_get m i hi]
theorem Mat.frozen {w : World} {b : Nat} {m : Nat → Nat} (h : Mat w b m) (i : Nat) : w.frozen? ⟨b, i, none⟩ = false := frozen_of_row w b i _ _ h
theorem Mat.lt {w : World} {b : Nat} {m : Nat → Nat} (h : Mat w b m) : b < w.heap.size := (Array.getElem?_eq_some_iff.1 h).1
theorem Mat.below {w w' : World} {B b : Nat} {m : Nat → Nat} (h : Mat w b m) (hb : Below B w w') (hB : b < B) : Mat w' b m := (hb.block b hB).trans h
theorem Mat.keep {w w' : World} {b : Nat} {m : Nat → Nat} (h : Mat w b m) (hb : Below w.heap.size w w') : Mat w' b m := h.below hb h.lt
theorem Mat.ext {w : World} {b : Nat} {m m' : Nat → Nat} (h : Mat w b m) (he : ∀ i, i < 32 → m i = m' i) : Mat w b m' := by
  unfold Mat at h ⊢; rw [h, mc_ext m m' he]
theorem mc_set (m : Nat → Nat) (i v : Nat) : (mc m).setIfInBounds i (.int .u32 (v : Int)) = mc fun j => if j = i then v else m j := by
  apply Array.ext_getElem?
  intro j
  rw [Array.getElem?_setIfInBounds]
  by_cases hj : j < 32
  · rw [mc_get _ j hj, mc_get _ j hj, mc_size]
    by_cases e : i = j
    · subst e; simp [hj]
    · have e' : ¬ j = i := fun h => e h.symm
      simp [e, e']
  · have h1 : (mc m)[j]? = none := by rw [Array.getElem?_eq_none_iff, mc_size]; omega
    have h2 : (mc fun j => if j = i then v else m j)[j]? = none := by rw [Array.getElem?_eq_none_iff, mc_size]; omega
    rw [h1, h2, mc_size]
    by_cases e : i = j
    · subst e; simp [hj]
    · simp [e]
theorem Mat.set {w : World} {b : Nat} {m : Nat → Nat} (h : Mat w b m) (i v : Nat) : Mat (w.setCell ⟨b, i, none⟩ (.int .u32 (v : Int))) b fun j => if j = i then v else m j := by
  unfold Mat
  rw [heap_setCell_same w b i _ _ _ h, mc_set]
theorem Mat.other {w : World} {b : Nat} {m : Nat → Nat} (h : Mat w b m) (a : Addr) (v : Value) (hne : b ≠ a.block) : Mat (w.setCell a v) b m :=
  (heap_setCell_other w a b v hne).trans h
theorem mc_zero : #[Value.int IntKind.u32 0, Value.int IntKind.u32 0, Value.int IntKind.u32 0, Value.int IntKind.u32 0, Value.int IntKind.u32 0, Value.int IntKind.u32 0, Value.int IntKind.u32 0, Value.int IntKind.u32 0,
    Value.int IntKind.u32 0, Value.int IntKind.u32 0, Value.int IntKind.u32 0, Value.int IntKind.u32 0, Value.int IntKind.u32 0, Value.int IntKind.u32 0, Value.int IntKind.u32 0, Value.int IntKind.u32 0,
    Value.int IntKind.u32 0, Value.int IntKind.u32 0, Value.int IntKind.u32 0, Value.int IntKind.u32 0, Value.int IntKind.u32 0, Value.int IntKind.u32 0, Value.int IntKind.u32 0, Value.int IntKind.u32 0,
    Value.int IntKind.u32 0, Value.int IntKind.u32 0, Value.int IntKind.u32 0, Value.int IntKind.u32 0, Value.int IntKind.u32 0, Value.int IntKind.u32 0, Value.int IntKind.u32 0, Value.int IntKind.u32 0] = mc fun _ => 0 := by rfl

theorem size_alloc (w : World) (o : Obj) : (w.alloc o).heap.size = w.heap.size + 1 := by
  show (w.heap.push o).size = _
  simp
theorem heap3_0 (w : World) (A B C : Obj) : (((w.alloc A).alloc B).alloc C).heap[w.heap.size]? = some A := by
  rw [heap_alloc_old _ _ (by rw [size_alloc, size_alloc]; omega)]; exact heap_alloc2_old w A B
theorem heap3_1 (w : World) (A B C : Obj) : (((w.alloc A).alloc B).alloc C).heap[w.heap.size + 1]? = some B := by
  rw [heap_alloc_old _ _ (by rw [size_alloc, size_alloc]; omega)]; exact heap_alloc2_new w A B
theorem heap3_2 (w : World) (A B C : Obj) : (((w.alloc A).alloc B).alloc C).heap[w.heap.size + 1 + 1]? = some C := by
  have h := heap_alloc_new ((w.alloc A).alloc B) C
  rw [size_alloc, size_alloc] at h
  exact h
theorem below3 (w : World) (A B C : Obj) : Below w.heap.size w (((w.alloc A).alloc B).alloc C) :=
  (((Below.refl _ _).alloc (Nat.le_refl _) _).alloc (by rw [size_alloc]; omega) _).alloc (by rw [size_alloc, size_alloc]; omega) _

set_option maxHeartbeats 400000 in
theorem square_any (m : Nat → Nat) (w : World) (hm : ∀ i, i < 32 → m i < 4294967296) :
    Calls Try.prog 30 #[.agg (mc m)] w fun e w' => e = .returned (.agg (mc fun i => M.tmTo m (m i) 32)) ∧ Below w.heap.size w w' := by
  go_enter Try.func30, Try.ntmps30
  go_wp2_with (refine wpList_load_row rfl 48 _ rfl w.heap.size rfl 48 (mc m) (0, 0) _ (heap3_0 _ _ _ _) Try.underlying48 rfl (info_mat m) ?_)
  go_loopw [4, 5, 7] (fun _ _ i wx => ∃ k : Nat, k ≤ 32 ∧ i = .int .i64 k ∧ Mat wx w.heap.size m ∧ Mat wx (w.heap.size + 1) (fun _ => 0) ∧ Mat wx (w.heap.size + 1 + 1) (fun j => if j < k then M.tmTo m (m j) 32 else 0) ∧ w.heap.size + 3 ≤ wx.heap.size ∧ Below w.heap.size w wx) (fun _ _ i _ => 32 - (intOf i).toNat)
  case atStart =>
    refine ⟨0, Nat.zero_le _, rfl, ?_, ?_, ?_, ?_, ?_⟩
    · exact heap3_0 _ _ _ _
    · rw [mc_zero]; exact heap3_1 _ _ _ _
    · rw [mc_zero]; exact (show Mat _ _ (fun _ => 0) from heap3_2 _ _ _ _)
    · rw [size_alloc, size_alloc, size_alloc]; omega
    · exact below3 _ _ _ _
  case round =>
    obtain ⟨k, hk, rfl, m0, m1, m2, hz, hbel⟩ := hrel
    by_cases hlt : k < 32
    · have hidx := run_index_mat m (k : Int) (by omega) (by omega)
      have e0 : (fun j => if j < k then M.tmTo m (m j) 32 else 0) k = 0 := by simp
      go_wp2_with (first | (refine wpList_load_row rfl 48 _ rfl w.heap.size rfl 48 (mc m) (0, 0) _ m0 Try.underlying48 rfl (info_mat m) ?_) | (go_at_call 29; refine (times_any m (m k) _ (hm k hlt) hm).mono ?_; rintro e w1 ⟨rfl, hb1⟩; have hc1 := (m2.keep hb1).cell hlt; have hf1 := (m2.keep hb1).frozen k; rw [e0] at hc1))
      go_roundw
      case rel =>
        refine ⟨k + 1, by omega, by go_num, (m0.keep hb1).other _ _ (by show w.heap.size ≠ w.heap.size + 1 + 1; omega), (m1.keep hb1).other _ _ (by show w.heap.size + 1 ≠ w.heap.size + 1 + 1; omega), ((m2.keep hb1).set k _).ext ?_, ?_, ?_⟩
        · intro i _
          by_cases e : i = k
          · subst e; simp
          · by_cases e2 : i < k
            · simp [e, e2, show i < k + 1 by omega]
            · simp [e, e2, show ¬ i < k + 1 by omega]
        · have := hb1.size; simp; omega
        · exact (hbel.trans (hb1.mono (by omega))).setCell (by simp; omega) _
      case measure => simp [intOf]; omega
    · obtain rfl : k = 32 := by omega
      have m3 := m2.ext (m' := fun i => M.tmTo m (m i) 32) (fun i hi => by simp [hi])
      clear m2
      go_wp2_with (first | (refine wpList_load_row rfl 48 _ rfl (w.heap.size + 1 + 1) rfl 48 _ (0, 0) _ m3 Try.underlying48 rfl (info_mat _) ?_) | (refine wpList_store_row rfl 48 _ _ rfl (w.heap.size + 1) _ rfl rfl 48 _ m1 (info_mat _) (by rw [mc_size, mc_size]) (mc_one _) ?_))
      refine bodyPost_ret (v := .agg (mc fun i => M.tmTo m (m i) 32)) (results_cell_row Try.results30 _ _ (w.heap.size + 1) 48 _ (0, 0) _ rfl (setRow_heap _ _ _ _ _ _ m1) Try.underlying48 rfl (info_mat _)) rfl ⟨rfl, below_setRow hbel (by omega) _⟩

/-- the matrix of n steps -/
def ms (n : Nat) : Nat → Nat := fun i => M.st n (2 ^ i)
theorem ms_lt (n : Nat) : ∀ i, i < 32 → ms n i < 4294967296 := fun i hi => M.st_lt n (Nat.pow_lt_pow_right (by decide) hi)
theorem square_ms (n : Nat) (w : World) :
    Calls Try.prog 30 #[.agg (mc (ms n))] w fun e w' => e = .returned (.agg (mc (ms (n + n)))) ∧ Below w.heap.size w w' := by
  refine (square_any (ms n) w (ms_lt n)).mono ?_
  rintro e w1 ⟨rfl, hb⟩
  refine ⟨?_, hb⟩
  rw [mc_ext (fun i => M.tmTo (ms n) (ms n i) 32) (ms (n + n)) fun i hi => ?_]
  rw [M.tm_st (ms n) n (ms n i) (ms_lt n i hi) fun _ _ => rfl]
  exact (M.st_add n n (2 ^ i)).symm
theorem times_ms (n s : Nat) (w : World) (hs : s < 4294967296) :
    Calls Try.prog 29 #[.agg (mc (ms n)), .int .u32 s] w fun e w' => e = .returned (.int .u32 (M.st n s : Nat)) ∧ Below w.heap.size w w' := by
  have h := times_any (ms n) s w hs (ms_lt n)
  rw [M.tm_st (ms n) n s hs fun _ _ => rfl] at h
  exact h

end Go.Proofs.Ytkhdbeambmfdfaa
