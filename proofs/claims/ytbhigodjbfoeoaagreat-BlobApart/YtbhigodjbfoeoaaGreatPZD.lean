import Derived.Test.YtbhigodjbfoeoaaGreatPZC
namespace Go.Proofs.YtbhigodjbfoeoaaGreat
open Go.RowKit

theorem sizeU8 : (Tryz.prog.info? 5).map (·.size) = some 1 := by kernel_rfl
theorem made_list (n : Nat) : madeCells #[Value.int .u8 0] n = (List.replicate n (Value.int .u8 0)).toArray := by
  unfold madeCells
  apply Array.ext
  · simp
  · intro i h1 h2
    simp [Nat.mod_one]
theorem B8_of {w : World} {a : Option Addr} {l : List Nat} (h : Bs w a l) : B8 l := h.1
theorem newHere (w : World) (g : Nat) (h : w.heap.size ≤ g) : New w none (some ⟨g, 0, none⟩) := fun x hx => .inr (by simp only [Option.some.injEq] at hx; subst hx; exact h)

theorem run_copied (w : World) (a : Option Addr) (c : Nat) (l : List Nat) (hB : Bs w a l) (hlen : l.length ≤ 281474976710656) :
    ∃ w2, (Builtin.copy_ #[32, 32] 3 #[.slice (some ⟨w.heap.size, 0, none⟩) l.length l.length, .slice a l.length c]).run Tryz.prog (w.alloc (.cells (madeCells #[.int .u8 0] l.length) 5)) = .ok (.int .i64 (l.length : Int)) w2 ∧ Own w w2 (some ⟨w.heap.size, 0, none⟩) l.length l := by
  by_cases h0 : l = []
  · subst h0
    refine ⟨_, run_copy_none (P := Tryz.prog) _ 32 32 3 5 _ a _ _ _ c Tryz.underlying32 sizeU8 (by simp), ?_, newHere w _ (Nat.le_refl _), al _ _⟩
    exact Rw.mk (cur := madeCells #[.int .u8 0] 0) (heap_alloc_new _ _) (Nat.le_refl _) (Nat.zero_le _) (size_madeCells _ _) (by simp [vb])
  · rcases hB.2.2 with h1 | ⟨b, off, rfl, hc⟩
    · exact absurd h1 h0
    · have hr := run_copy_row (P := Tryz.prog) (w.alloc (.cells (madeCells #[.int .u8 0] l.length) 5)) 32 32 3 5 w.heap.size 0 l.length l.length ⟨b, off, none⟩ l.length c (madeCells #[.int .u8 0] l.length) 5 (vb l) Tryz.underlying32 sizeU8 (heap_alloc_new _ _) (by rw [vb_length]; show _ = min _ _; omega)
        (fun j v hj => by
          have hlt : j < l.length := by
            have := (List.getElem?_eq_some_iff.1 hj).1
            rwa [vb_length] at this
          rw [vb_get l j hlt, Option.some.injEq] at hj
          subst hj
          rw [Addr.add_mid]
          exact ((al w _).cell (p := ⟨b, off + j, none⟩) (block_lt_of_cell (hc j hlt))).trans (hc j hlt)) (by rw [vb_length, size_madeCells]; omega) (vb_one l)
      rw [vb_length] at hr
      refine ⟨_, hr, ?_, newHere w _ (Nat.le_refl _), below_setRow (al _ _) (Nat.le_refl _) _⟩
      refine Rw.mk (cur := (vb l).toArray) ?_ (Nat.le_refl _) (by unfold maxLen; omega) (by simp [vb_length]) (by simp [← vb_length l])
      rw [setRow_heap _ _ _ _ _ _ (heap_alloc_new w _)]
      simp [made_list]
theorem Rw.set {w : World} {g cap : Nat} {l : List Nat} (h : Rw w (some ⟨g, 0, none⟩) cap l) (i x : Nat) : Rw (w.setCell ⟨g, i, none⟩ (.int .u8 (x : Int))) (some ⟨g, 0, none⟩) cap (l.set i x) := by
  rcases h.cases with ⟨h0, _⟩ | ⟨g', cur, h0, hg, h1, h2, h3, h4⟩
  · cases h0
  · simp only [Option.some.injEq, Addr.mk.injEq] at h0
    obtain ⟨rfl, _⟩ := h0
    refine Rw.mk (cur := cur.setIfInBounds i (.int .u8 (x : Int))) ?_ (by simpa using h1) h2 (by simpa using h3) ?_
    · show (w.heap.modify g _)[g]? = _
      rw [Array.getElem?_modify, if_pos rfl, hg]
      simp
    · rw [List.length_set, Array.toList_setIfInBounds, List.take_set, h4]
      simp [vb, List.map_set]
end Go.Proofs.YtbhigodjbfoeoaaGreat
