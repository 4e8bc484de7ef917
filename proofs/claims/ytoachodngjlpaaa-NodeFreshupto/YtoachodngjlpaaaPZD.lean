import Derived.Test.YtoachodngjlpaaaPZC
namespace Go.Proofs.Ytoachodngjlpaaa
open Go.RowKit

theorem sizeU8 : (Try.prog.info? 5).map (·.size) = some 1 := by kernel_rfl
theorem made_list (n : Nat) : madeCells #[Value.int .u8 0] n = (List.replicate n (Value.int .u8 0)).toArray := by
  unfold madeCells
  apply Array.ext
  · simp
  · intro i h1 h2
    simp [Nat.mod_one]
theorem B8_of {w : World} {a : Option Addr} {l : List Nat} (h : Bs w a l) : B8 l := h.1
theorem newHere (w : World) (g : Nat) (h : w.heap.size ≤ g) : New w none (some ⟨g, 0, none⟩) := fun x hx => .inr (by simp only [Option.some.injEq] at hx; subst hx; exact h)

theorem run_copied (w : World) (a : Option Addr) (c : Nat) (l : List Nat) (hB : Bs w a l) (hlen : l.length ≤ 281474976710656) :
    ∃ w2, (Builtin.copy_ #[23, 23] 3 #[.slice (some ⟨w.heap.size, 0, none⟩) l.length l.length, .slice a l.length c]).run Try.prog (w.alloc (.cells (madeCells #[.int .u8 0] l.length) 5)) = .ok (.int .i64 (l.length : Int)) w2 ∧ Own w w2 (some ⟨w.heap.size, 0, none⟩) l.length l := by
  by_cases h0 : l = []
  · subst h0
    refine ⟨_, run_copy_none (P := Try.prog) _ 23 23 3 5 _ a _ _ _ c Try.underlying23 sizeU8 (by simp), ?_, newHere w _ (Nat.le_refl _), al _ _⟩
    exact Rw.mk (cur := madeCells #[.int .u8 0] 0) (heap_alloc_new _ _) (Nat.le_refl _) (Nat.zero_le _) (size_madeCells _ _) (by simp [vb])
  · rcases hB.2.2 with h1 | ⟨b, off, rfl, hc⟩
    · exact absurd h1 h0
    · have hr := run_copy_row (P := Try.prog) (w.alloc (.cells (madeCells #[.int .u8 0] l.length) 5)) 23 23 3 5 w.heap.size 0 l.length l.length ⟨b, off, none⟩ l.length c (madeCells #[.int .u8 0] l.length) 5 (vb l) Try.underlying23 sizeU8 (heap_alloc_new _ _) (by rw [vb_length]; show _ = min _ _; omega)
        (fun j v hj => by
          have hlt : j < l.length := by
            have := (List.getElem?_eq_some_iff.1 hj).1
            rwa [vb_length] at this
          rw [vb_get l j hlt, Option.some.injEq] at hj
          subst hj
          rw [Addr.add_mid]
          exact ((al w _).cell (p := ⟨b, off + j, none⟩) (block_lt_of_cell (hc j hlt))).trans (hc j hlt)) (by rw [vb_length, size_madeCells]; omega) (vb_one l)
      rw [vb_length] at hr
      refine ⟨_, hr, ?_, newHere w _ (Nat.le_refl _), below_setRow (al _ _) (Nat.le_refl _) _⟩
      refine Rw.mk (cur := (vb l).toArray) ?_ (Nat.le_refl _) (by unfold maxLen; omega) (by simp [vb_length]) (by simp [← vb_length l])
      rw [setRow_heap _ _ _ _ _ _ (heap_alloc_new w _)]
      simp [made_list]
set_option maxHeartbeats 800000 in
theorem copied_any (w : World) (a : Option Addr) (n c : Nat) (l : List Nat) (hB : Bs w a l) (hn : n = l.length) (hlen : l.length ≤ 281474976710656) :
    Calls Try.prog 43 #[.slice a n c] w fun e w' => e = .returned (.slice (some ⟨w.heap.size, 0, none⟩) l.length l.length) ∧ Own w w' (some ⟨w.heap.size, 0, none⟩) l.length l := by
  subst hn
  have hmk := make_u8 l.length l.length (Nat.le_refl _) hlen
  obtain ⟨w2, hr, ho⟩ := run_copied w a c l hB hlen
  have HO := hide ho
  clear hB ho
  go_enter Try.func43, Try.ntmps43
  go_wp2
  go_ret
  exact ⟨rfl, HO.out⟩
set_option maxHeartbeats 800000 in
theorem lengthened_any (w : World) (a : Option Addr) (n c : Nat) (l : List Nat) (hB : Bs w a l) (hn : n = l.length) (hlen : l.length < 140737488355328) :
    Calls Try.prog 40 #[.slice a n c] w fun e w' => ∃ a' c', e = .returned (.slice a' (l ++ [0]).length c') ∧ Own w w' a' c' (l ++ [0]) := by
  subst hn
  have HC := hide (copied_any w a l.length c l hB rfl (by omega))
  clear hB
  go_enter Try.func40, Try.ntmps40
  go_wp2_with fail
  refine HC.out.mono ?_
  rintro e w1 ⟨rfl, ho⟩
  have HO := hide ho
  clear ho
  go_wp2_with (at_builtin; refine wpList_ap1 rfl _ _ rfl (some ⟨w.heap.size, 0, none⟩) l.length l.length l rfl rfl (HO.out.r.keep (al _ _)) ⟨w1.heap.size, 0, none⟩ 1 0 rfl ?c1 (by omega) ?_)
  try case c1 => simp
  intro g cap' w2 hR hN hg _
  have hx := fresh_step HO.out.n HO.out.b hg hN
  have HR := hide hR
  clear hR hN hg
  go_wp2
  go_ret
  exact ⟨_, cap', by simp, HR.out, hx.1, hx.2⟩
theorem Rw.set {w : World} {g cap : Nat} {l : List Nat} (h : Rw w (some ⟨g, 0, none⟩) cap l) (i x : Nat) : Rw (w.setCell ⟨g, i, none⟩ (.int .u8 (x : Int))) (some ⟨g, 0, none⟩) cap (l.set i x) := by
  rcases h.cases with ⟨h0, _⟩ | ⟨g', cur, h0, hg, h1, h2, h3, h4⟩
  · cases h0
  · simp only [Option.some.injEq, Addr.mk.injEq] at h0
    obtain ⟨rfl, _⟩ := h0
    refine Rw.mk (cur := cur.setIfInBounds i (.int .u8 (x : Int))) ?_ (by simpa using h1) h2 (by simpa using h3) ?_
    · show (w.heap.modify g _)[g]? = _
      rw [Array.getElem?_modify, if_pos rfl, hg]
      simp
    · rw [List.length_set, Array.toList_setIfInBounds, List.take_set, h4]
      simp [vb, List.map_set]
set_option maxHeartbeats 800000 in
theorem raised_any (w : World) (a : Option Addr) (n c : Nat) (l : List Nat) (hB : Bs w a l) (hn : n = l.length) (hlen : l.length ≤ 281474976710656) (h0 : 0 < l.length) (hx : l.getD (l.length - 1) 0 < 255) :
    Calls Try.prog 41 #[.slice a n c] w fun e w' => ∃ a' c', e = .returned (.slice a' (inc l).length c') ∧ Own w w' a' c' (inc l) := by
  subst hn
  have HC := hide (copied_any w a l.length c l hB rfl hlen)
  clear hB
  have hsub : IntKind.i64.wrap ((l.length : Int) - 1) = ((l.length - 1 : Nat) : Int) := by rw [wrapI (by omega) (by omega)]; omega
  have hlt : ((l.length - 1 : Nat) : Int) < (l.length : Int) := by omega
  have HI : Hid (l.set (l.length - 1) (l.getD (l.length - 1) 0 + 1) = inc l) := rfl
  have HIL := hide (inc_len l)
  go_enter Try.func41, Try.ntmps41
  go_wp2_with fail
  refine HC.out.mono ?_
  rintro e w1 ⟨rfl, ho⟩
  have hc := ho.r.cell (i := l.length - 1) (by omega)
  have hf : w1.frozen? ⟨w.heap.size, l.length - 1, none⟩ = false := by
    rcases ho.r.cases with ⟨h0, _⟩ | ⟨g', cur, h0, hg', _⟩
    · cases h0
    · simp only [Option.some.injEq, Addr.mk.injEq] at h0
      obtain ⟨rfl, _⟩ := h0
      exact frozen_of_row w1 _ _ _ _ hg'
  have HO := hide ho
  clear ho
  generalize l.getD (l.length - 1) 0 = x at *
  generalize l.length - 1 = j at *
  have hx1 : IntKind.u8.wrap ((x : Int) + 1) = ((x + 1 : Nat) : Int) := by simp [IntKind.wrap, IntKind.bits, IntKind.signed]; omega
  go_wp2
  go_ret
  refine ⟨_, l.length, by rw [HIL.out]; rfl, ?_, HO.out.n, HO.out.b.setCell (Nat.le_refl _) _⟩
  rw [← HI.out]
  exact HO.out.r.set j (x + 1)
end Go.Proofs.Ytoachodngjlpaaa
