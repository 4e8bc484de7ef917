import Derived.Test.YtoachodngjlpaaaDQ
namespace Go.Proofs.Ytoachodngjlpaaa
set_option linter.unusedVariables false
set_option linter.unusedSimpArgs false
open Go.RowKit
set_option maxHeartbeats 16000000 in
set_option maxRecDepth 8000 in
theorem Join_any (w : World) (l r : Pv) (aS : Option Addr) (cs : Nat) (s : List Nat) (hl : Pi w l) (hr : Pi w r) (hB : Bs w aS s) (hc : s.length ≤ cs) (hsl : s.length ≤ 140737488355264) (hd : l.data.length ≤ 140737488355264) (sl : Sml l.items) (sr : Sml r.items) :
    Calls Try.prog 11 #[l.vl, r.vl, .slice aS s.length cs] w fun e w' => ∃ q : Pv, e = .returned (.tuple #[q.vl, .bool (joi l.pg r.pg s).2]) ∧ Pn w w' q ∧ q.pg = (joi l.pg r.pg s).1 ∧ Below w.heap.size w w' := by
  have hL1 := hl.it.2.1
  have hL2 := hr.it.2.1
  have JO := hide fun (W : World) (hb : Below w.heap.size w W) (h1 : 0 < r.items.length) (hn : l.items.length + r.items.length ≤ 2199023255520) => joined_any W l r aS cs s (hl.keep hb) (hr.keep hb) h1 (hB.keep hb) hc hsl hd sl sr hn
  have AL := hide fun (W : World) => areAlike_any W l r
  clear hl hr hB hc hsl hd sl sr
  obtain ⟨kind, level, aI, cI, L, aD, cD, data, next⟩ := l
  obtain ⟨kind2, level2, aI2, cI2, L2, aD2, cD2, data2, next2⟩ := r
  unfold Pv.vl at *
  simp only [Pv.cs] at *
  obtain ⟨m, hm⟩ : ∃ m, L.length = m := ⟨_, rfl⟩
  obtain ⟨m2, hm2⟩ : ∃ m2, L2.length = m2 := ⟨_, rfl⟩
  obtain ⟨A, hA⟩ : ∃ A, alk (Pv.pg ⟨kind, level, aI, cI, L, aD, cD, data, next⟩) (Pv.pg ⟨kind2, level2, aI2, cI2, L2, aD2, cD2, data2, next2⟩) = A := ⟨_, rfl⟩
  have EJ : Hid (joi (Pv.pg ⟨kind, level, aI, cI, L, aD, cD, data, next⟩) (Pv.pg ⟨kind2, level2, aI2, cI2, L2, aD2, cD2, data2, next2⟩) s = if A = true ∧ 1 ≤ m ∧ 1 ≤ m2 ∧ m + m2 ≤ 8 then ((Pv.pg ⟨kind, level, aI, cI, L, aD, cD, data, next⟩).wi (jnd (Pv.pg ⟨kind, level, aI, cI, L, aD, cD, data, next⟩) (Pv.pg ⟨kind2, level2, aI2, cI2, L2, aD2, cD2, data2, next2⟩) s), true) else (Pg.zero, false)) := by
    show _ = _
    have e1 : (Pv.pg ⟨kind, level, aI, cI, L, aD, cD, data, next⟩).items.length = m := by rw [← hm]; exact List.length_map _
    have e2 : (Pv.pg ⟨kind2, level2, aI2, cI2, L2, aD2, cD2, data2, next2⟩).items.length = m2 := by rw [← hm2]; exact List.length_map _
    unfold joi
    rw [e1, e2, hA]
  rw [EJ.out]
  obtain ⟨J, hJ⟩ : ∃ J, (Pv.pg ⟨kind, level, aI, cI, L, aD, cD, data, next⟩).wi (jnd (Pv.pg ⟨kind, level, aI, cI, L, aD, cD, data, next⟩) (Pv.pg ⟨kind2, level2, aI2, cI2, L2, aD2, cD2, data2, next2⟩) s) = J := ⟨_, rfl⟩
  simp only [hJ] at JO ⊢
  simp only [hA] at AL
  simp only [hm, hm2] at JO AL hL1 hL2 ⊢
  clear hm hm2 hA EJ hJ
  have U3 := hide (three_blocks w (.cells #[.int .i64 kind, .int .i64 level, .slice aI m cI, .slice aD data.length cD, .int .i64 next] 25) (.cells #[.int .i64 kind2, .int .i64 level2, .slice aI2 m2 cI2, .slice aD2 data2.length cD2, .int .i64 next2] 25) (.cells #[.int .i64 0, .int .i64 0, .slice none 0 0, .slice none 0 0, .int .i64 0] 25))
  cases A with
  | false =>
    rw [if_neg (fun h => by cases h.1)]
    go_enter Try.func11, Try.ntmps11
    go_wp2_with fail
    have SS := hide (And.intro (cells5 U3.out.1).2.2.1 (cells5 U3.out.2.1).2.2.1)
    refine wp_region_held_drew (S := fun W => W.cell? ⟨w.heap.size, 2, none⟩ = some (.slice aI m cI) ∧ W.cell? ⟨w.heap.size + 1, 2, none⟩ = some (.slice aI2 m2 cI2)) (by kernel_rfl) (SS.out) (fun hHeld => ?_)
    refine wpAnyH_take (i := 0) (v := ?vaa0) rfl (by kernel_rfl) (by kernel_rfl) (by kernel_rfl) (fun _ _ _ h => h) (Or.inl ⟨by rfl, ?hya0⟩) (by assumption) ?raa0
    case hya0 => (intro wq hSw; (try dsimp only at hSw); obtain ⟨e0, e1⟩ := hSw; go_simp <;> with_reducible rfl)
    try simp only [Act.put, List.getElem_toArray, List.getElem_cons_zero, List.setIfInBounds_toArray, List.set_cons_zero, List.set_cons_succ]
    refine wpAnyH_take (i := 1) (v := ?vaa1) rfl (by kernel_rfl) (by kernel_rfl) (by kernel_rfl) (fun _ _ _ h => h) (Or.inl ⟨by rfl, ?hya1⟩) (by assumption) ?raa1
    case hya1 => (intro wq hSw; (try dsimp only at hSw); obtain ⟨e0, e1⟩ := hSw; go_simp <;> with_reducible rfl)
    try simp only [Act.put, List.getElem_toArray, List.getElem_cons_zero, List.getElem_cons_succ, List.setIfInBounds_toArray, List.set_cons_zero, List.set_cons_succ]
    refine wpAnyH_take (i := 2) (v := ?vaa2) rfl (by kernel_rfl) (by kernel_rfl) (by kernel_rfl) (fun _ _ _ h => h) (Or.inl ⟨by rfl, ?hya2⟩) (by assumption) ?raa2
    case hya2 => (intro wq hSw; (try dsimp only at hSw); obtain ⟨e0, e1⟩ := hSw; go_simp <;> with_reducible rfl)
    try simp only [Act.put, List.getElem_toArray, List.getElem_cons_zero, List.getElem_cons_succ, List.setIfInBounds_toArray, List.set_cons_zero, List.set_cons_succ]
    refine wpAnyH_take (i := 3) (v := ?vaa3) rfl (by kernel_rfl) (by kernel_rfl) (by kernel_rfl) (fun _ _ _ h => h) (Or.inl ⟨by rfl, ?hya3⟩) (by assumption) ?raa3
    case hya3 => (intro wq hSw; (try dsimp only at hSw); obtain ⟨e0, e1⟩ := hSw; go_simp <;> with_reducible rfl)
    try simp only [Act.put, List.getElem_toArray, List.getElem_cons_zero, List.getElem_cons_succ, List.setIfInBounds_toArray, List.set_cons_zero, List.set_cons_succ]
    refine wpAnyH_take (i := 4) (v := ?vaa4) rfl (by kernel_rfl) (by kernel_rfl) (by kernel_rfl) (fun _ _ _ h => h) (Or.inl ⟨by rfl, ?hya4⟩) (by assumption) ?raa4
    case hya4 => (intro wq hSw; (try dsimp only at hSw); obtain ⟨e0, e1⟩ := hSw; go_simp <;> with_reducible rfl)
    try simp only [Act.put, List.getElem_toArray, List.getElem_cons_zero, List.getElem_cons_succ, List.setIfInBounds_toArray, List.set_cons_zero, List.set_cons_succ]
    refine wpAnyH_take (i := 5) (v := ?vaa5) rfl (by kernel_rfl) (by kernel_rfl) (by kernel_rfl) (fun _ _ _ h => h) (Or.inl ⟨by rfl, ?hya5⟩) (by assumption) ?raa5
    case hya5 => (intro wq hSw; (try dsimp only at hSw); obtain ⟨e0, e1⟩ := hSw; go_simp <;> with_reducible rfl)
    try simp only [Act.put, List.getElem_toArray, List.getElem_cons_zero, List.getElem_cons_succ, List.setIfInBounds_toArray, List.set_cons_zero, List.set_cons_succ]
    refine wpAnyH_take (i := 6) (v := ?vaa6) rfl (by kernel_rfl) (by kernel_rfl) (by kernel_rfl) (fun _ _ _ h => h) (Or.inl ⟨by rfl, ?hya6⟩) (by assumption) ?raa6
    case hya6 => (intro wq hSw; (try dsimp only at hSw); obtain ⟨e0, e1⟩ := hSw; go_simp <;> with_reducible rfl)
    try simp only [Act.put, List.getElem_toArray, List.getElem_cons_zero, List.getElem_cons_succ, List.setIfInBounds_toArray, List.set_cons_zero, List.set_cons_succ]
    refine wpAnyH_take (i := 7) (v := ?vaa7) rfl (by kernel_rfl) (by kernel_rfl) (by kernel_rfl) (fun _ _ _ h => h) (Or.inl ⟨by rfl, ?hya7⟩) (by assumption) ?raa7
    case hya7 => (intro wq hSw; (try dsimp only at hSw); obtain ⟨e0, e1⟩ := hSw; go_simp <;> with_reducible rfl)
    try simp only [Act.put, List.getElem_toArray, List.getElem_cons_zero, List.getElem_cons_succ, List.setIfInBounds_toArray, List.set_cons_zero, List.set_cons_succ]
    refine wpAnyH_done (by kernel_rfl) ?_ _
    clear hHeld SS
    go_wp2_with fail
    refine (AL.out _).mono ?_
    rintro _ w9 ⟨rfl, h9⟩
    have BP := hide (blk_keep U3.out.1 (bt (dr2 _) h9))
    have BQ := hide (blk_keep U3.out.2.1 (bt (dr2 _) h9))
    have HX := hide (blk_keep U3.out.2.2.1 (bt (dr2 _) h9))
    have AB := hide (bt U3.out.2.2.2 (bt (dr2 _) h9))
    clear h9 U3 AL
    go_wp2_with (first | (refine wpList_store_row rfl 25 _ _ rfl (w.heap.size + 2) _ rfl rfl 25 _ HX.out sizePage rfl (by simp [Value.oneCell']) ?_) | fail)
    refine bodyPost_ret (v := .tuple #[.agg _, _]) (results_cell_one Try.results11 _ _ (w.heap.size + 2) 25 _ (0, 0) _ rfl (setRow_heap _ _ _ _ _ _ HX.out) Try.underlying25 rfl sizePage) rfl ?_
    exact ⟨Pv.zero, rfl, Pn.zero _ _, rfl, below_row _ AB.out (by omega)⟩
  | true =>
    by_cases h1 : 1 ≤ m
    · have h1I : decide ((m : Int) < 1) = false := decide_eq_false (by omega)
      by_cases h2 : 1 ≤ m2
      · have h2I : decide ((m2 : Int) < 1) = false := decide_eq_false (by omega)
        by_cases h3 : m + m2 ≤ 8
        · have h3I : decide (8 < (m : Int) + (m2 : Int)) = false := decide_eq_false (by omega)
          rw [if_pos ⟨rfl, h1, h2, h3⟩]
          go_enter Try.func11, Try.ntmps11
          go_wp2_with fail
          have SS := hide (And.intro (cells5 U3.out.1).2.2.1 (cells5 U3.out.2.1).2.2.1)
          refine wp_region_held_drew (S := fun W => W.cell? ⟨w.heap.size, 2, none⟩ = some (.slice aI m cI) ∧ W.cell? ⟨w.heap.size + 1, 2, none⟩ = some (.slice aI2 m2 cI2)) (by kernel_rfl) (SS.out) (fun hHeld => ?_)
          refine wpAnyH_take (i := 0) (v := ?vab0) rfl (by kernel_rfl) (by kernel_rfl) (by kernel_rfl) (fun _ _ _ h => h) (Or.inl ⟨by rfl, ?hyb0⟩) (by assumption) ?rab0
          case hyb0 => (intro wq hSw; (try dsimp only at hSw); obtain ⟨e0, e1⟩ := hSw; go_simp <;> with_reducible rfl)
          try simp only [Act.put, List.getElem_toArray, List.getElem_cons_zero, List.setIfInBounds_toArray, List.set_cons_zero, List.set_cons_succ]
          refine wpAnyH_take (i := 1) (v := ?vab1) rfl (by kernel_rfl) (by kernel_rfl) (by kernel_rfl) (fun _ _ _ h => h) (Or.inl ⟨by rfl, ?hyb1⟩) (by assumption) ?rab1
          case hyb1 => (intro wq hSw; (try dsimp only at hSw); obtain ⟨e0, e1⟩ := hSw; go_simp <;> with_reducible rfl)
          try simp only [Act.put, List.getElem_toArray, List.getElem_cons_zero, List.getElem_cons_succ, List.setIfInBounds_toArray, List.set_cons_zero, List.set_cons_succ]
          refine wpAnyH_take (i := 2) (v := ?vab2) rfl (by kernel_rfl) (by kernel_rfl) (by kernel_rfl) (fun _ _ _ h => h) (Or.inl ⟨by rfl, ?hyb2⟩) (by assumption) ?rab2
          case hyb2 => (intro wq hSw; (try dsimp only at hSw); obtain ⟨e0, e1⟩ := hSw; go_simp <;> with_reducible rfl)
          try simp only [Act.put, List.getElem_toArray, List.getElem_cons_zero, List.getElem_cons_succ, List.setIfInBounds_toArray, List.set_cons_zero, List.set_cons_succ]
          refine wpAnyH_take (i := 3) (v := ?vab3) rfl (by kernel_rfl) (by kernel_rfl) (by kernel_rfl) (fun _ _ _ h => h) (Or.inl ⟨by rfl, ?hyb3⟩) (by assumption) ?rab3
          case hyb3 => (intro wq hSw; (try dsimp only at hSw); obtain ⟨e0, e1⟩ := hSw; go_simp <;> with_reducible rfl)
          try simp only [Act.put, List.getElem_toArray, List.getElem_cons_zero, List.getElem_cons_succ, List.setIfInBounds_toArray, List.set_cons_zero, List.set_cons_succ]
          refine wpAnyH_take (i := 4) (v := ?vab4) rfl (by kernel_rfl) (by kernel_rfl) (by kernel_rfl) (fun _ _ _ h => h) (Or.inl ⟨by rfl, ?hyb4⟩) (by assumption) ?rab4
          case hyb4 => (intro wq hSw; (try dsimp only at hSw); obtain ⟨e0, e1⟩ := hSw; go_simp <;> with_reducible rfl)
          try simp only [Act.put, List.getElem_toArray, List.getElem_cons_zero, List.getElem_cons_succ, List.setIfInBounds_toArray, List.set_cons_zero, List.set_cons_succ]
          refine wpAnyH_take (i := 5) (v := ?vab5) rfl (by kernel_rfl) (by kernel_rfl) (by kernel_rfl) (fun _ _ _ h => h) (Or.inl ⟨by rfl, ?hyb5⟩) (by assumption) ?rab5
          case hyb5 => (intro wq hSw; (try dsimp only at hSw); obtain ⟨e0, e1⟩ := hSw; go_simp <;> with_reducible rfl)
          try simp only [Act.put, List.getElem_toArray, List.getElem_cons_zero, List.getElem_cons_succ, List.setIfInBounds_toArray, List.set_cons_zero, List.set_cons_succ]
          refine wpAnyH_take (i := 6) (v := ?vab6) rfl (by kernel_rfl) (by kernel_rfl) (by kernel_rfl) (fun _ _ _ h => h) (Or.inl ⟨by rfl, ?hyb6⟩) (by assumption) ?rab6
          case hyb6 => (intro wq hSw; (try dsimp only at hSw); obtain ⟨e0, e1⟩ := hSw; go_simp <;> with_reducible rfl)
          try simp only [Act.put, List.getElem_toArray, List.getElem_cons_zero, List.getElem_cons_succ, List.setIfInBounds_toArray, List.set_cons_zero, List.set_cons_succ]
          refine wpAnyH_take (i := 7) (v := ?vab7) rfl (by kernel_rfl) (by kernel_rfl) (by kernel_rfl) (fun _ _ _ h => h) (Or.inl ⟨by rfl, ?hyb7⟩) (by assumption) ?rab7
          case hyb7 => (intro wq hSw; (try dsimp only at hSw); obtain ⟨e0, e1⟩ := hSw; go_simp <;> with_reducible rfl)
          try simp only [Act.put, List.getElem_toArray, List.getElem_cons_zero, List.getElem_cons_succ, List.setIfInBounds_toArray, List.set_cons_zero, List.set_cons_succ]
          refine wpAnyH_done (by kernel_rfl) ?_ _
          clear hHeld SS
          go_wp2_with fail
          refine (AL.out _).mono ?_
          rintro _ w9 ⟨rfl, h9⟩
          have BP := hide (blk_keep U3.out.1 (bt (dr2 _) h9))
          have BQ := hide (blk_keep U3.out.2.1 (bt (dr2 _) h9))
          have HX := hide (blk_keep U3.out.2.2.1 (bt (dr2 _) h9))
          have AB := hide (bt U3.out.2.2.2 (bt (dr2 _) h9))
          clear h9 U3 AL
          obtain ⟨x0, x1, x2, x3, x4⟩ := cells5 BP.out
          obtain ⟨y0, y1, y2, y3, y4⟩ := cells5 BQ.out
          go_wp2_with fail
          refine (JO.out _ AB.out h2 (by omega)).mono ?_
          rintro _ w10 ⟨q, rfl, hq, hg, hb⟩
          have Q := hide (hq.pre AB.out.size)
          have G := hide hg
          have B10 := hide (bt AB.out hb)
          have HX2 := hide (blk_keep HX.out hb)
          clear hq hg hb JO x0 x1 x2 x3 x4 y0 y1 y2 y3 y4
          go_wp2_with (first | (refine wpList_store_row rfl 25 _ _ rfl (w.heap.size + 2) _ rfl rfl 25 _ HX2.out sizePage rfl (by simp [Value.oneCell']) ?_) | fail)
          refine bodyPost_ret (v := .tuple #[.agg _, _]) (results_cell_one Try.results11 _ _ (w.heap.size + 2) 25 _ (0, 0) _ rfl (setRow_heap _ _ _ _ _ _ HX2.out) Try.underlying25 rfl sizePage) rfl ?_
          exact ⟨q, rfl, Q.out.row HX2.out (by decide) (by decide) _, G.out, below_row _ B10.out (by omega)⟩
        · have h3I : decide (8 < (m : Int) + (m2 : Int)) = true := decide_eq_true (by omega)
          rw [if_neg (fun h => h3 h.2.2.2)]
          go_enter Try.func11, Try.ntmps11
          go_wp2_with fail
          have SS := hide (And.intro (cells5 U3.out.1).2.2.1 (cells5 U3.out.2.1).2.2.1)
          refine wp_region_held_drew (S := fun W => W.cell? ⟨w.heap.size, 2, none⟩ = some (.slice aI m cI) ∧ W.cell? ⟨w.heap.size + 1, 2, none⟩ = some (.slice aI2 m2 cI2)) (by kernel_rfl) (SS.out) (fun hHeld => ?_)
          refine wpAnyH_take (i := 0) (v := ?vac0) rfl (by kernel_rfl) (by kernel_rfl) (by kernel_rfl) (fun _ _ _ h => h) (Or.inl ⟨by rfl, ?hyc0⟩) (by assumption) ?rac0
          case hyc0 => (intro wq hSw; (try dsimp only at hSw); obtain ⟨e0, e1⟩ := hSw; go_simp <;> with_reducible rfl)
          try simp only [Act.put, List.getElem_toArray, List.getElem_cons_zero, List.setIfInBounds_toArray, List.set_cons_zero, List.set_cons_succ]
          refine wpAnyH_take (i := 1) (v := ?vac1) rfl (by kernel_rfl) (by kernel_rfl) (by kernel_rfl) (fun _ _ _ h => h) (Or.inl ⟨by rfl, ?hyc1⟩) (by assumption) ?rac1
          case hyc1 => (intro wq hSw; (try dsimp only at hSw); obtain ⟨e0, e1⟩ := hSw; go_simp <;> with_reducible rfl)
          try simp only [Act.put, List.getElem_toArray, List.getElem_cons_zero, List.getElem_cons_succ, List.setIfInBounds_toArray, List.set_cons_zero, List.set_cons_succ]
          refine wpAnyH_take (i := 2) (v := ?vac2) rfl (by kernel_rfl) (by kernel_rfl) (by kernel_rfl) (fun _ _ _ h => h) (Or.inl ⟨by rfl, ?hyc2⟩) (by assumption) ?rac2
          case hyc2 => (intro wq hSw; (try dsimp only at hSw); obtain ⟨e0, e1⟩ := hSw; go_simp <;> with_reducible rfl)
          try simp only [Act.put, List.getElem_toArray, List.getElem_cons_zero, List.getElem_cons_succ, List.setIfInBounds_toArray, List.set_cons_zero, List.set_cons_succ]
          refine wpAnyH_take (i := 3) (v := ?vac3) rfl (by kernel_rfl) (by kernel_rfl) (by kernel_rfl) (fun _ _ _ h => h) (Or.inl ⟨by rfl, ?hyc3⟩) (by assumption) ?rac3
          case hyc3 => (intro wq hSw; (try dsimp only at hSw); obtain ⟨e0, e1⟩ := hSw; go_simp <;> with_reducible rfl)
          try simp only [Act.put, List.getElem_toArray, List.getElem_cons_zero, List.getElem_cons_succ, List.setIfInBounds_toArray, List.set_cons_zero, List.set_cons_succ]
          refine wpAnyH_take (i := 4) (v := ?vac4) rfl (by kernel_rfl) (by kernel_rfl) (by kernel_rfl) (fun _ _ _ h => h) (Or.inl ⟨by rfl, ?hyc4⟩) (by assumption) ?rac4
          case hyc4 => (intro wq hSw; (try dsimp only at hSw); obtain ⟨e0, e1⟩ := hSw; go_simp <;> with_reducible rfl)
          try simp only [Act.put, List.getElem_toArray, List.getElem_cons_zero, List.getElem_cons_succ, List.setIfInBounds_toArray, List.set_cons_zero, List.set_cons_succ]
          refine wpAnyH_take (i := 5) (v := ?vac5) rfl (by kernel_rfl) (by kernel_rfl) (by kernel_rfl) (fun _ _ _ h => h) (Or.inl ⟨by rfl, ?hyc5⟩) (by assumption) ?rac5
          case hyc5 => (intro wq hSw; (try dsimp only at hSw); obtain ⟨e0, e1⟩ := hSw; go_simp <;> with_reducible rfl)
          try simp only [Act.put, List.getElem_toArray, List.getElem_cons_zero, List.getElem_cons_succ, List.setIfInBounds_toArray, List.set_cons_zero, List.set_cons_succ]
          refine wpAnyH_take (i := 6) (v := ?vac6) rfl (by kernel_rfl) (by kernel_rfl) (by kernel_rfl) (fun _ _ _ h => h) (Or.inl ⟨by rfl, ?hyc6⟩) (by assumption) ?rac6
          case hyc6 => (intro wq hSw; (try dsimp only at hSw); obtain ⟨e0, e1⟩ := hSw; go_simp <;> with_reducible rfl)
          try simp only [Act.put, List.getElem_toArray, List.getElem_cons_zero, List.getElem_cons_succ, List.setIfInBounds_toArray, List.set_cons_zero, List.set_cons_succ]
          refine wpAnyH_take (i := 7) (v := ?vac7) rfl (by kernel_rfl) (by kernel_rfl) (by kernel_rfl) (fun _ _ _ h => h) (Or.inl ⟨by rfl, ?hyc7⟩) (by assumption) ?rac7
          case hyc7 => (intro wq hSw; (try dsimp only at hSw); obtain ⟨e0, e1⟩ := hSw; go_simp <;> with_reducible rfl)
          try simp only [Act.put, List.getElem_toArray, List.getElem_cons_zero, List.getElem_cons_succ, List.setIfInBounds_toArray, List.set_cons_zero, List.set_cons_succ]
          refine wpAnyH_done (by kernel_rfl) ?_ _
          clear hHeld SS
          go_wp2_with fail
          refine (AL.out _).mono ?_
          rintro _ w9 ⟨rfl, h9⟩
          have BP := hide (blk_keep U3.out.1 (bt (dr2 _) h9))
          have BQ := hide (blk_keep U3.out.2.1 (bt (dr2 _) h9))
          have HX := hide (blk_keep U3.out.2.2.1 (bt (dr2 _) h9))
          have AB := hide (bt U3.out.2.2.2 (bt (dr2 _) h9))
          clear h9 U3 AL
          go_wp2_with (first | (refine wpList_store_row rfl 25 _ _ rfl (w.heap.size + 2) _ rfl rfl 25 _ HX.out sizePage rfl (by simp [Value.oneCell']) ?_) | fail)
          refine bodyPost_ret (v := .tuple #[.agg _, _]) (results_cell_one Try.results11 _ _ (w.heap.size + 2) 25 _ (0, 0) _ rfl (setRow_heap _ _ _ _ _ _ HX.out) Try.underlying25 rfl sizePage) rfl ?_
          exact ⟨Pv.zero, rfl, Pn.zero _ _, rfl, below_row _ AB.out (by omega)⟩
      · have h2I : decide ((m2 : Int) < 1) = true := decide_eq_true (by omega)
        rw [if_neg (fun h => h2 h.2.2.1)]
        go_enter Try.func11, Try.ntmps11
        go_wp2_with fail
        have SS := hide (And.intro (cells5 U3.out.1).2.2.1 (cells5 U3.out.2.1).2.2.1)
        refine wp_region_held_drew (S := fun W => W.cell? ⟨w.heap.size, 2, none⟩ = some (.slice aI m cI) ∧ W.cell? ⟨w.heap.size + 1, 2, none⟩ = some (.slice aI2 m2 cI2)) (by kernel_rfl) (SS.out) (fun hHeld => ?_)
        refine wpAnyH_take (i := 0) (v := ?vad0) rfl (by kernel_rfl) (by kernel_rfl) (by kernel_rfl) (fun _ _ _ h => h) (Or.inl ⟨by rfl, ?hyd0⟩) (by assumption) ?rad0
        case hyd0 => (intro wq hSw; (try dsimp only at hSw); obtain ⟨e0, e1⟩ := hSw; go_simp <;> with_reducible rfl)
        try simp only [Act.put, List.getElem_toArray, List.getElem_cons_zero, List.setIfInBounds_toArray, List.set_cons_zero, List.set_cons_succ]
        refine wpAnyH_take (i := 1) (v := ?vad1) rfl (by kernel_rfl) (by kernel_rfl) (by kernel_rfl) (fun _ _ _ h => h) (Or.inl ⟨by rfl, ?hyd1⟩) (by assumption) ?rad1
        case hyd1 => (intro wq hSw; (try dsimp only at hSw); obtain ⟨e0, e1⟩ := hSw; go_simp <;> with_reducible rfl)
        try simp only [Act.put, List.getElem_toArray, List.getElem_cons_zero, List.getElem_cons_succ, List.setIfInBounds_toArray, List.set_cons_zero, List.set_cons_succ]
        refine wpAnyH_take (i := 2) (v := ?vad2) rfl (by kernel_rfl) (by kernel_rfl) (by kernel_rfl) (fun _ _ _ h => h) (Or.inl ⟨by rfl, ?hyd2⟩) (by assumption) ?rad2
        case hyd2 => (intro wq hSw; (try dsimp only at hSw); obtain ⟨e0, e1⟩ := hSw; go_simp <;> with_reducible rfl)
        try simp only [Act.put, List.getElem_toArray, List.getElem_cons_zero, List.getElem_cons_succ, List.setIfInBounds_toArray, List.set_cons_zero, List.set_cons_succ]
        refine wpAnyH_take (i := 3) (v := ?vad3) rfl (by kernel_rfl) (by kernel_rfl) (by kernel_rfl) (fun _ _ _ h => h) (Or.inl ⟨by rfl, ?hyd3⟩) (by assumption) ?rad3
        case hyd3 => (intro wq hSw; (try dsimp only at hSw); obtain ⟨e0, e1⟩ := hSw; go_simp <;> with_reducible rfl)
        try simp only [Act.put, List.getElem_toArray, List.getElem_cons_zero, List.getElem_cons_succ, List.setIfInBounds_toArray, List.set_cons_zero, List.set_cons_succ]
        refine wpAnyH_take (i := 4) (v := ?vad4) rfl (by kernel_rfl) (by kernel_rfl) (by kernel_rfl) (fun _ _ _ h => h) (Or.inl ⟨by rfl, ?hyd4⟩) (by assumption) ?rad4
        case hyd4 => (intro wq hSw; (try dsimp only at hSw); obtain ⟨e0, e1⟩ := hSw; go_simp <;> with_reducible rfl)
        try simp only [Act.put, List.getElem_toArray, List.getElem_cons_zero, List.getElem_cons_succ, List.setIfInBounds_toArray, List.set_cons_zero, List.set_cons_succ]
        refine wpAnyH_take (i := 5) (v := ?vad5) rfl (by kernel_rfl) (by kernel_rfl) (by kernel_rfl) (fun _ _ _ h => h) (Or.inl ⟨by rfl, ?hyd5⟩) (by assumption) ?rad5
        case hyd5 => (intro wq hSw; (try dsimp only at hSw); obtain ⟨e0, e1⟩ := hSw; go_simp <;> with_reducible rfl)
        try simp only [Act.put, List.getElem_toArray, List.getElem_cons_zero, List.getElem_cons_succ, List.setIfInBounds_toArray, List.set_cons_zero, List.set_cons_succ]
        refine wpAnyH_take (i := 6) (v := ?vad6) rfl (by kernel_rfl) (by kernel_rfl) (by kernel_rfl) (fun _ _ _ h => h) (Or.inl ⟨by rfl, ?hyd6⟩) (by assumption) ?rad6
        case hyd6 => (intro wq hSw; (try dsimp only at hSw); obtain ⟨e0, e1⟩ := hSw; go_simp <;> with_reducible rfl)
        try simp only [Act.put, List.getElem_toArray, List.getElem_cons_zero, List.getElem_cons_succ, List.setIfInBounds_toArray, List.set_cons_zero, List.set_cons_succ]
        refine wpAnyH_take (i := 7) (v := ?vad7) rfl (by kernel_rfl) (by kernel_rfl) (by kernel_rfl) (fun _ _ _ h => h) (Or.inl ⟨by rfl, ?hyd7⟩) (by assumption) ?rad7
        case hyd7 => (intro wq hSw; (try dsimp only at hSw); obtain ⟨e0, e1⟩ := hSw; go_simp <;> with_reducible rfl)
        try simp only [Act.put, List.getElem_toArray, List.getElem_cons_zero, List.getElem_cons_succ, List.setIfInBounds_toArray, List.set_cons_zero, List.set_cons_succ]
        refine wpAnyH_done (by kernel_rfl) ?_ _
        clear hHeld SS
        go_wp2_with fail
        refine (AL.out _).mono ?_
        rintro _ w9 ⟨rfl, h9⟩
        have BP := hide (blk_keep U3.out.1 (bt (dr2 _) h9))
        have BQ := hide (blk_keep U3.out.2.1 (bt (dr2 _) h9))
        have HX := hide (blk_keep U3.out.2.2.1 (bt (dr2 _) h9))
        have AB := hide (bt U3.out.2.2.2 (bt (dr2 _) h9))
        clear h9 U3 AL
        go_wp2_with (first | (refine wpList_store_row rfl 25 _ _ rfl (w.heap.size + 2) _ rfl rfl 25 _ HX.out sizePage rfl (by simp [Value.oneCell']) ?_) | fail)
        refine bodyPost_ret (v := .tuple #[.agg _, _]) (results_cell_one Try.results11 _ _ (w.heap.size + 2) 25 _ (0, 0) _ rfl (setRow_heap _ _ _ _ _ _ HX.out) Try.underlying25 rfl sizePage) rfl ?_
        exact ⟨Pv.zero, rfl, Pn.zero _ _, rfl, below_row _ AB.out (by omega)⟩
    · have h1I : decide ((m : Int) < 1) = true := decide_eq_true (by omega)
      rw [if_neg (fun h => h1 h.2.1)]
      go_enter Try.func11, Try.ntmps11
      go_wp2_with fail
      have SS := hide (And.intro (cells5 U3.out.1).2.2.1 (cells5 U3.out.2.1).2.2.1)
      refine wp_region_held_drew (S := fun W => W.cell? ⟨w.heap.size, 2, none⟩ = some (.slice aI m cI) ∧ W.cell? ⟨w.heap.size + 1, 2, none⟩ = some (.slice aI2 m2 cI2)) (by kernel_rfl) (SS.out) (fun hHeld => ?_)
      refine wpAnyH_take (i := 0) (v := ?vae0) rfl (by kernel_rfl) (by kernel_rfl) (by kernel_rfl) (fun _ _ _ h => h) (Or.inl ⟨by rfl, ?hye0⟩) (by assumption) ?rae0
      case hye0 => (intro wq hSw; (try dsimp only at hSw); obtain ⟨e0, e1⟩ := hSw; go_simp <;> with_reducible rfl)
      try simp only [Act.put, List.getElem_toArray, List.getElem_cons_zero, List.setIfInBounds_toArray, List.set_cons_zero, List.set_cons_succ]
      refine wpAnyH_take (i := 1) (v := ?vae1) rfl (by kernel_rfl) (by kernel_rfl) (by kernel_rfl) (fun _ _ _ h => h) (Or.inl ⟨by rfl, ?hye1⟩) (by assumption) ?rae1
      case hye1 => (intro wq hSw; (try dsimp only at hSw); obtain ⟨e0, e1⟩ := hSw; go_simp <;> with_reducible rfl)
      try simp only [Act.put, List.getElem_toArray, List.getElem_cons_zero, List.getElem_cons_succ, List.setIfInBounds_toArray, List.set_cons_zero, List.set_cons_succ]
      refine wpAnyH_take (i := 2) (v := ?vae2) rfl (by kernel_rfl) (by kernel_rfl) (by kernel_rfl) (fun _ _ _ h => h) (Or.inl ⟨by rfl, ?hye2⟩) (by assumption) ?rae2
      case hye2 => (intro wq hSw; (try dsimp only at hSw); obtain ⟨e0, e1⟩ := hSw; go_simp <;> with_reducible rfl)
      try simp only [Act.put, List.getElem_toArray, List.getElem_cons_zero, List.getElem_cons_succ, List.setIfInBounds_toArray, List.set_cons_zero, List.set_cons_succ]
      refine wpAnyH_take (i := 3) (v := ?vae3) rfl (by kernel_rfl) (by kernel_rfl) (by kernel_rfl) (fun _ _ _ h => h) (Or.inl ⟨by rfl, ?hye3⟩) (by assumption) ?rae3
      case hye3 => (intro wq hSw; (try dsimp only at hSw); obtain ⟨e0, e1⟩ := hSw; go_simp <;> with_reducible rfl)
      try simp only [Act.put, List.getElem_toArray, List.getElem_cons_zero, List.getElem_cons_succ, List.setIfInBounds_toArray, List.set_cons_zero, List.set_cons_succ]
      refine wpAnyH_take (i := 4) (v := ?vae4) rfl (by kernel_rfl) (by kernel_rfl) (by kernel_rfl) (fun _ _ _ h => h) (Or.inl ⟨by rfl, ?hye4⟩) (by assumption) ?rae4
      case hye4 => (intro wq hSw; (try dsimp only at hSw); obtain ⟨e0, e1⟩ := hSw; go_simp <;> with_reducible rfl)
      try simp only [Act.put, List.getElem_toArray, List.getElem_cons_zero, List.getElem_cons_succ, List.setIfInBounds_toArray, List.set_cons_zero, List.set_cons_succ]
      refine wpAnyH_take (i := 5) (v := ?vae5) rfl (by kernel_rfl) (by kernel_rfl) (by kernel_rfl) (fun _ _ _ h => h) (Or.inl ⟨by rfl, ?hye5⟩) (by assumption) ?rae5
      case hye5 => (intro wq hSw; (try dsimp only at hSw); obtain ⟨e0, e1⟩ := hSw; go_simp <;> with_reducible rfl)
      try simp only [Act.put, List.getElem_toArray, List.getElem_cons_zero, List.getElem_cons_succ, List.setIfInBounds_toArray, List.set_cons_zero, List.set_cons_succ]
      refine wpAnyH_take (i := 6) (v := ?vae6) rfl (by kernel_rfl) (by kernel_rfl) (by kernel_rfl) (fun _ _ _ h => h) (Or.inl ⟨by rfl, ?hye6⟩) (by assumption) ?rae6
      case hye6 => (intro wq hSw; (try dsimp only at hSw); obtain ⟨e0, e1⟩ := hSw; go_simp <;> with_reducible rfl)
      try simp only [Act.put, List.getElem_toArray, List.getElem_cons_zero, List.getElem_cons_succ, List.setIfInBounds_toArray, List.set_cons_zero, List.set_cons_succ]
      refine wpAnyH_take (i := 7) (v := ?vae7) rfl (by kernel_rfl) (by kernel_rfl) (by kernel_rfl) (fun _ _ _ h => h) (Or.inl ⟨by rfl, ?hye7⟩) (by assumption) ?rae7
      case hye7 => (intro wq hSw; (try dsimp only at hSw); obtain ⟨e0, e1⟩ := hSw; go_simp <;> with_reducible rfl)
      try simp only [Act.put, List.getElem_toArray, List.getElem_cons_zero, List.getElem_cons_succ, List.setIfInBounds_toArray, List.set_cons_zero, List.set_cons_succ]
      refine wpAnyH_done (by kernel_rfl) ?_ _
      clear hHeld SS
      go_wp2_with fail
      refine (AL.out _).mono ?_
      rintro _ w9 ⟨rfl, h9⟩
      have BP := hide (blk_keep U3.out.1 (bt (dr2 _) h9))
      have BQ := hide (blk_keep U3.out.2.1 (bt (dr2 _) h9))
      have HX := hide (blk_keep U3.out.2.2.1 (bt (dr2 _) h9))
      have AB := hide (bt U3.out.2.2.2 (bt (dr2 _) h9))
      clear h9 U3 AL
      go_wp2_with (first | (refine wpList_store_row rfl 25 _ _ rfl (w.heap.size + 2) _ rfl rfl 25 _ HX.out sizePage rfl (by simp [Value.oneCell']) ?_) | fail)
      refine bodyPost_ret (v := .tuple #[.agg _, _]) (results_cell_one Try.results11 _ _ (w.heap.size + 2) 25 _ (0, 0) _ rfl (setRow_heap _ _ _ _ _ _ HX.out) Try.underlying25 rfl sizePage) rfl ?_
      exact ⟨Pv.zero, rfl, Pn.zero _ _, rfl, below_row _ AB.out (by omega)⟩
end Go.Proofs.Ytoachodngjlpaaa
