import Derived.Test.YthfcgfdboienkaaVF
import Derived.Test.YthfcgfdboienkaaVP
import Derived.Laws.CopyOwn
namespace Go.Proofs.Ythfcgfdboienkaa
open Go.RowKit

set_option maxHeartbeats 8000000 in
theorem tSame_any (w : World) (v : VV) (hv : v.ok) : Calls Try.prog 13 #[.agg v.pc] w fun e w' => e = .returned (.agg v.same.pc) ∧ Below w.heap.size w w' := by
  have V := hide (tValid_any · v)
  have O := hide oneNaN_any
  have C := hide (sClone_any v.text · (by have := hv.t; omega))
  have sf := st_float
  have sc := st_complex
  have BB : ∀ o o2 o3, Below w.heap.size w (((w.alloc o).alloc o2).alloc o3) := fun o o2 o3 => (((Below.refl w.heap.size w).alloc (Nat.le_refl _) o).alloc (by rw [size_alloc]; omega) o2).alloc (by rw [size_alloc, size_alloc]; omega) o3
  unfold VV.same
  clear hv
  cases hvv : v.valid with
  | false =>
    rw [if_neg (by decide)]
    rw [hvv] at V
    unfold VV.pc VV.zero at *
    rw [show (ByteArray.empty : ByteArray) = ⟨#[]⟩ from rfl]
    go_enter Try.func13, Try.ntmps13
    go_wp2_with fail
    refine (V.out _).mono ?_
    rintro e w1 ⟨rfl, o, rfl⟩
    go_wp2
    refine bodyPost_ret (v := .agg _) (by simp [results, Try.results13, go_sem]) rfl ⟨rfl, BB _ _ _⟩
  | true =>
    rw [if_pos rfl]
    rw [hvv] at V
    unfold VV.pc at *
    go_enter Try.func13, Try.ntmps13
    go_wp2_with fail
    refine (V.out _).mono ?_
    rintro e w1 ⟨rfl, o, rfl⟩
    go_wp2_with fail
    refine (O.out _ _).mono ?_
    rintro e w1 ⟨rfl, rfl⟩
    go_wp2
    go_region_with (first | (go_at_call 33; refine (O.out _ _).mono ?_; rintro e w1 ⟨rfl, rfl⟩))
    all_goals (
      go_wp2_with fail
      refine (C.out _).mono ?_
      rintro e w1 ⟨rfl, hb⟩
      obtain ⟨m0, m1, hbl⟩ := same_tail w w1 _ _ _ hb
      have hc5 := cell_of_row w1 w.heap.size 5 _ _ _ m0
      have hf5 := frozen_of_row w1 w.heap.size 5 _ _ m0
      have hset := set_same (v := .string v.text) m0 (k := 5) (by simp)
      simp only [List.getElem?_toArray, List.getElem?_cons_succ, List.getElem?_cons_zero] at hc5
      have HB := hide hbl
      have M0 := hide m0
      have M1 := hide m1
      clear hb hbl m0 m1
      go_wp2_with (first | (refine wpList_load_row rfl 26 _ rfl w.heap.size rfl 26 _ (0, 0) _ M0.out Try.underlying26 rfl sizeVal ?_) | (refine wpList_store_row rfl 26 _ _ rfl (w.heap.size + 1) _ rfl rfl 26 _ M1.out sizeVal rfl (by simp [Value.oneCell']) ?_))
      refine bodyPost_ret (v := .agg _) (results_cell_row Try.results13 _ _ (w.heap.size + 1) 26 _ (0, 0) _ rfl (setRow_heap _ _ _ _ _ _ M1.out) Try.underlying26 rfl sizeVal) rfl ⟨rfl, below_setRow HB.out (Nat.le_succ _) _⟩)
end Go.Proofs.Ythfcgfdboienkaa
