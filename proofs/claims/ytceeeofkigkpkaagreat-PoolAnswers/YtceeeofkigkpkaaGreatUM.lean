import Derived.Test.YtceeeofkigkpkaaGreatUK
namespace Go.Proofs.YtceeeofkigkpkaaGreat
open Go.RowKit

/-! ### what is left of runs -/
theorem vs_new (w : World) (p q : Int) : Vs (w.alloc (.cells #[.int .i64 p, .int .i64 q] 92)) (some ⟨w.heap.size, 0, none⟩) [(p, q)] := by
  refine .inr ⟨_, _, rfl, fun j u hu => ?_⟩
  rw [cell_of_row _ _ _ _ _ _ (World.alloc_heap_new w _), Nat.zero_add]
  simpa [rc, rcs] using hu
set_option maxHeartbeats 1000000 in
set_option maxRecDepth 10000 in
theorem leftOf_any (w : World) (am : Option Addr) (c : Nat) (M : List Rn) (lo hi : Int) (hM : Vs w am M) (hlo : Nm lo) (hhi : Nm hi) (hb : ∀ r ∈ M, Nm r.1 ∧ Nm r.2) (hlen : M.length ≤ 11000000000000) :
    Calls Tryz.prog 91 #[.slice am M.length c, .int .i64 lo, .int .i64 hi] w fun e w' =>
      ∃ a' cap', e = .returned (.slice a' (left M lo hi).length cap') ∧ Vw w' a' cap' (left M lo hi) ∧ New w none a' ∧ Below w.heap.size w w' := by
  by_cases hm0 : M = []
  · subst hm0
    rw [left_nil, List.length_nil]
    go_enter Tryz.func91, Tryz.ntmps91
    go_wp2
    go_ret
    exact ⟨none, 0, rfl, Vw.nil _, New.none _ _, Below.refl _ _⟩
  · have hmp : 0 < M.length := List.length_pos_iff.2 hm0
    rw [left_ne hm0]
    have eh : M.head hm0 = M.getD 0 Rn.zero := by rw [List.head_eq_getElem, List.getD_eq_getElem?_getD, List.getElem?_eq_getElem hmp]; rfl
    have el : M.getLast hm0 = M.getD (M.length - 1) Rn.zero := by rw [List.getLast_eq_getElem, List.getD_eq_getElem?_getD, List.getElem?_eq_getElem (by omega)]; rfl
    rw [eh, el]
    obtain ⟨b, o, rfl, d1, d2⟩ := hM.at hmp
    obtain ⟨b', o', e, d3, d4⟩ := hM.at (show M.length - 1 < M.length by omega)
    simp only [Option.some.injEq, Addr.mk.injEq, and_true] at e
    obtain ⟨rfl, rfl⟩ := e
    obtain ⟨⟨f1, f2⟩, f3, f4⟩ := hb _ (getD_mem hmp)
    obtain ⟨⟨f5, f6⟩, f7, f8⟩ := hb _ (getD_mem (show M.length - 1 < M.length by omega))
    generalize hm : M.length - 1 = m at *
    generalize hn : M.length = n at *
    have h1 : m < n := by omega
    have h2 : (n : Int) - 1 = (m : Int) := by omega
    generalize M.getD 0 Rn.zero = f at *
    generalize M.getD m Rn.zero = l at *
    rw [Nat.zero_mul, Nat.add_zero] at d1 d2
    obtain ⟨g1, g2⟩ := hlo
    obtain ⟨g3, g4⟩ := hhi
    have a0 := al w (.cells #[.int .i64 f.1, .int .i64 f.2] 92)
    have d3a := (a0.cell (p := ⟨b, o + m * 2, none⟩) (block_lt_of_cell d3)).trans d3
    have d4a := (a0.cell (p := ⟨b, o + m * 2 + 1, none⟩) (block_lt_of_cell d4)).trans d4
    have bd := block_lt_of_cell d3
    have bd4 := block_lt_of_cell d4
    clear hM hb hm hn eh el hm0 hmp
    obtain ⟨Wf, hWf⟩ : ∃ W, w.alloc (.cells #[.int .i64 f.1, .int .i64 f.2] 92) = W := ⟨_, rfl⟩
    rw [hWf] at a0 d3a d4a
    have sf : Wf.heap.size = w.heap.size + 1 := by rw [← hWf, size_alloc]
    have nf0 := World.alloc_heap_new w (.cells #[.int .i64 f.1, .int .i64 f.2] 92)
    rw [hWf] at nf0
    have nf1 : Wf.cell? ⟨w.heap.size, 0, none⟩ = some (.int .i64 f.1) := by rw [cell_of_row _ _ _ _ _ _ nf0]; rfl
    /- a row, the last run's box behind it, one run more behind that -/
    have two : ∀ (W : World) (ga ca : Nat) (L : List Rn) (hR : Vw W (some ⟨ga, 0, none⟩) ca L ∨ (L = [])) (hL : L.length ≤ 4), ∀ a0 n0 c0, ((a0 = some ⟨ga, 0, none⟩ ∧ c0 = ca ∧ Vw W (some ⟨ga, 0, none⟩) ca L) ∨ (a0 = none ∧ c0 = 0 ∧ L = [])) → n0 = L.length →
        ∃ g2 c2 w2, (Builtin.append_ #[88, 88] 88 #[.slice a0 n0 c0, .slice (some ⟨W.heap.size + 1, 0, none⟩) 1 1]).run Tryz.prog ((W.alloc (.cells #[.int .i64 l.1, .int .i64 l.2] 92)).alloc (.cells #[.int .i64 (hi + 1), .int .i64 l.2] 92)) = .ok (.slice (some ⟨g2, 0, none⟩) (n0 + 1) c2) w2 ∧
          Vw w2 (some ⟨g2, 0, none⟩) c2 (L ++ [(hi + 1, l.2)]) ∧ New W a0 (some ⟨g2, 0, none⟩) ∧ But (InA a0) W w2 := by
      intro W ga ca L _ hL a0 n0 c0 h hn0
      have vs := vs_new (W.alloc (.cells #[.int .i64 l.1, .int .i64 l.2] 92)) (hi + 1) l.2
      rw [size_alloc] at vs
      have b2 := bt (al W (.cells #[.int .i64 l.1, .int .i64 l.2] 92)) (al _ (.cells #[.int .i64 (hi + 1), .int .i64 l.2] 92))
      have hv : Vw ((W.alloc (.cells #[.int .i64 l.1, .int .i64 l.2] 92)).alloc (.cells #[.int .i64 (hi + 1), .int .i64 l.2] 92)) a0 c0 L := by
        rcases h with ⟨rfl, rfl, h⟩ | ⟨rfl, rfl, rfl⟩
        · exact h.keep b2
        · exact Vw.nil _
      obtain ⟨g2, c2, w2, hr, h1, h2, h3⟩ := run_apR _ 88 a0 n0 c0 L hn0 hv _ 1 1 [(hi + 1, l.2)] rfl vs (by simp) (by simp; omega)
      exact ⟨g2, c2, w2, hr, h1, h2.mono b2.size, (But.ofBelow b2).trans (But.inA h3) (fun _ _ h => h)⟩
    by_cases c1 : f.1 < lo
    · have hw1 : IntKind.i64.wrap (lo - 1) = lo - 1 := wrapK (by omega) (by omega)
      rw [if_pos c1]
      have vs1 := vs_new Wf f.1 (lo - 1)
      rw [sf] at vs1
      obtain ⟨ga, ca, w1, hrun1, q1, q2, q3⟩ := run_apR (Wf.alloc (.cells #[.int .i64 f.1, .int .i64 (lo - 1)] 92)) 88 none 0 0 [] rfl (Vw.nil _) _ 1 1 [(f.1, lo - 1)] rfl vs1 (by simp) (by simp)
      rw [Nat.zero_add] at hrun1
      rw [List.nil_append] at q1
      have b1 : Below w.heap.size w w1 := by
        have h1 := bt a0 (al Wf (.cells #[.int .i64 f.1, .int .i64 (lo - 1)] 92))
        exact ((But.ofBelow (S := fun _ => False) h1).grown q3 (fun k hk _ => by cases hk)).below (fun _ _ h => h)
      have n1 : New w none (some ⟨ga, 0, none⟩) := q2.mono (by rw [size_alloc, sf]; omega)
      have e3 := (b1.cell (p := ⟨b, o + m * 2, none⟩) bd).trans d3
      have e4 := (b1.cell (p := ⟨b, o + m * 2 + 1, none⟩) bd4).trans d4
      clear q2 q3 vs1
      by_cases c2 : hi < l.2
      · have hw2 : IntKind.i64.wrap (hi + 1) = hi + 1 := wrapK (by omega) (by omega)
        rw [if_pos c2]
        obtain ⟨g2, c2', w2, hrun2, r1, r2, r3⟩ := two w1 ga ca [(f.1, lo - 1)] (.inl q1) (by simp) (some ⟨ga, 0, none⟩) 1 ca (.inl ⟨rfl, rfl, q1⟩) rfl
        have fin : ∃ a' cap', Ending.returned (.slice (some ⟨g2, 0, none⟩) 2 c2') = .returned (.slice a' ([(f.1, lo - 1)] ++ [(hi + 1, l.2)]).length cap') ∧ Vw w2 a' cap' ([(f.1, lo - 1)] ++ [(hi + 1, l.2)]) ∧ New w none a' ∧ Below w.heap.size w w2 :=
          ⟨_, c2', rfl, r1, n1.trans r2 b1.size, ((But.ofBelow (S := fun _ => False) b1).trans r3 (fun k hk h => by
            obtain ⟨x, hx, rfl⟩ := h
            rcases n1 x hx with ⟨y, hy, _⟩ | h2
            · cases hy
            · omega)).below (fun _ _ h => h)⟩
        have GG := hide fin
        clear fin r1 r2 r3 q1 n1 b1 two nf0
        go_enter Tryz.func91, Tryz.ntmps91
        go_wp2_with (first | (at_builtin; refine Lib.wpList_append_run _ rfl _ _ _ _ rfl _ _ rfl rfl _ _ hrun1 ?_) | (at_builtin; refine Lib.wpList_append_run _ rfl _ _ _ _ rfl _ _ rfl rfl _ _ hrun2 ?_))
        go_ret
        exact GG.out
      · rw [if_neg c2, List.append_nil]
        have GG := hide (show ∃ a' cap', Ending.returned (.slice (some ⟨ga, 0, none⟩) 1 ca) = .returned (.slice a' ([(f.1, lo - 1)]).length cap') ∧ Vw (w1.alloc (.cells #[.int .i64 l.1, .int .i64 l.2] 92)) a' cap' [(f.1, lo - 1)] ∧ New w none a' ∧ Below w.heap.size w (w1.alloc (.cells #[.int .i64 l.1, .int .i64 l.2] 92)) from ⟨_, ca, rfl, q1.keep (al _ _), n1, bt b1 (al _ _)⟩)
        clear q1 n1 b1 two nf0
        go_enter Tryz.func91, Tryz.ntmps91
        go_wp2_with (at_builtin; refine Lib.wpList_append_run _ rfl _ _ _ _ rfl _ _ rfl rfl _ _ hrun1 ?_)
        go_ret
        exact GG.out
    · rw [if_neg c1, List.nil_append]
      by_cases c2 : hi < l.2
      · have hw2 : IntKind.i64.wrap (hi + 1) = hi + 1 := wrapK (by omega) (by omega)
        rw [if_pos c2]
        obtain ⟨g2, c2', w2, hrun2, r1, r2, r3⟩ := two Wf 0 0 [] (.inr rfl) (by simp) none 0 0 (.inr ⟨rfl, rfl, rfl⟩) rfl
        rw [Nat.zero_add] at hrun2
        rw [List.nil_append] at r1
        rw [sf] at hrun2
        have GG := hide (show ∃ a' cap', Ending.returned (.slice (some ⟨g2, 0, none⟩) 1 c2') = .returned (.slice a' ([(hi + 1, l.2)]).length cap') ∧ Vw w2 a' cap' [(hi + 1, l.2)] ∧ New w none a' ∧ Below w.heap.size w w2 from
          ⟨_, c2', rfl, r1, r2.mono (by omega), ((But.ofBelow (S := fun _ => False) a0).trans r3 (fun k hk h => by obtain ⟨x, hx, _⟩ := h; cases hx)).below (fun _ _ h => h)⟩)
        clear r1 r2 r3 two nf0
        go_enter Tryz.func91, Tryz.ntmps91
        go_wp2_with (at_builtin; refine Lib.wpList_append_run _ rfl _ _ _ _ rfl _ _ rfl rfl _ _ hrun2 ?_)
        go_ret
        exact GG.out
      · rw [if_neg c2]
        clear two nf0
        go_enter Tryz.func91, Tryz.ntmps91
        go_wp2
        go_ret
        exact ⟨none, 0, rfl, Vw.nil _, New.none _ _, bt a0 (al _ _)⟩
end Go.Proofs.YtceeeofkigkpkaaGreat
