import Derived.Test.YtoachodngjlpaaaDR
namespace Go.Proofs.Ytoachodngjlpaaa
set_option linter.unusedVariables false
set_option linter.unusedSimpArgs false
open Go.RowKit
theorem jnd_sml {l r : Pv} {s : List Nat} (sl : Sml l.items) (sr : Sml r.items) (hs : s.length ≤ 140737488355264) : ∀ x ∈ jnd l.pg r.pg s, x.key.length ≤ 140737488355264 ∧ x.val.length ≤ 140737488355264 := by
  have g : ∀ {M : List Iv}, Sml M → ∀ x ∈ M.map Iv.it, x.key.length ≤ 140737488355264 ∧ x.val.length ≤ 140737488355264 := fun h x hx => by
    obtain ⟨y, hy, rfl⟩ := List.mem_map.1 hx
    exact h y hy
  have g0 : (r.pg.at 0).key.length ≤ 140737488355264 ∧ (r.pg.at 0).val.length ≤ 140737488355264 := by
    rw [Pv.at]
    by_cases h : 0 < r.items.length
    · exact sr _ (getD_memR h)
    · have : r.items = [] := List.length_eq_zero_iff.1 (by omega)
      rw [this]; simp [Iv.zero, Iv.it]
  intro x hx
  unfold jnd at hx
  rcases List.mem_append.1 hx with hx | hx
  · exact g sl x hx
  · rcases List.mem_cons.1 hx with rfl | hx
    · split
      · exact ⟨hs, g0.2⟩
      · exact g0
    · exact g sr x (List.mem_of_mem_drop hx)
/-- giver and taker in their boxes -/
structure Gt (v W : World) (g h : Nat) (c d : Array Value) : Prop where
  x : W.heap[g]? = some (.cells c 25 (0, 0))
  y : W.heap[h]? = some (.cells d 25 (0, 0))
  b : Below v.heap.size v W
  lg : v.heap.size ≤ g
  lh : v.heap.size ≤ h
  ne : g ≠ h
set_option maxHeartbeats 16000000 in
set_option maxRecDepth 16000 in
theorem Lend_left (w : World) (l r : Pv) (aS : Option Addr) (cs : Nat) (s : List Nat) (hl : Pi w l) (hr : Pi w r) (hB : Bs w aS s) (hc : s.length ≤ cs) (hsl : s.length ≤ 140737488355264) (hd : l.data.length ≤ 140737488355264) (hd2 : r.data.length ≤ 140737488355264) (sl : Sml l.items) (sr : Sml r.items) (n1 : l.items.length ≤ 2199023255488) (n2 : r.items.length ≤ 2199023255488) :
    Calls Try.prog 12 #[l.vl, r.vl, .slice aS s.length cs, .bool false] w fun e w' => ∃ (q1 q2 : Pv) (a : Option Addr) (c : Nat), e = .returned (.tuple #[q1.vl, q2.vl, .slice a (lend l.pg r.pg s false).s.length c, .bool (lend l.pg r.pg s false).ok]) ∧ Hq w w' q1 q2 a c (lend l.pg r.pg s false).s ∧ q1.pg = (lend l.pg r.pg s false).l ∧ q2.pg = (lend l.pg r.pg s false).r := by
  have JO := hide fun (W : World) (hb : Below w.heap.size w W) (h1 : 0 < r.items.length) (hn : l.items.length + r.items.length ≤ 2199023255520) => joined_any W l r aS cs s (hl.keep hb) (hr.keep hb) h1 (hB.keep hb) hc hsl hd sl sr hn
  have AK := hide fun (W : World) => areAlike_any W l r
  have WL := hide fun (W : World) (hb : Below w.heap.size w W) (b n : Nat) (ps : List Pc) (hn : n = ps.length) (hnn : n ≤ 8) (hx : Px W b ps) => with_any W l b ps n hn hnn (hl.bd.keep hb) ⟨hl.nk, hl.nl, hl.nn⟩ hd hx
  have WR := hide fun (W : World) (hb : Below w.heap.size w W) (b n : Nat) (ps : List Pc) (hn : n = ps.length) (hnn : n ≤ 8) (hx : Px W b ps) => with_any W r b ps n hn hnn (hr.bd.keep hb) ⟨hr.nk, hr.nl, hr.nn⟩ hd2 hx
  have SJ : Hid (∀ x ∈ jnd l.pg r.pg s, x.key.length ≤ 140737488355264 ∧ x.val.length ≤ 140737488355264) := jnd_sml sl sr hsl
  have JLN : Hid ((jnd l.pg r.pg s).length = l.items.length + (r.items.length - 1 + 1)) := by show _ = _; unfold jnd; rw [List.length_append, List.length_cons, List.length_drop, show l.pg.items.length = l.items.length from List.length_map _, show r.pg.items.length = r.items.length from List.length_map _]
  clear hl hr hB hc hsl hd hd2 sl sr
  obtain ⟨kind, level, aI, cI, L, aD, cD, data, next⟩ := l
  obtain ⟨kind2, level2, aI2, cI2, R, aD2, cD2, data2, next2⟩ := r
  unfold Pv.vl at *
  simp only [Pv.cs] at *
  obtain ⟨Z, hZ⟩ : ∃ Z, lend (Pv.pg ⟨kind, level, aI, cI, L, aD, cD, data, next⟩) (Pv.pg ⟨kind2, level2, aI2, cI2, R, aD2, cD2, data2, next2⟩) s false = Z := ⟨_, rfl⟩
  have HZ := hide hZ
  rw [hZ]
  clear hZ
  obtain ⟨m, hm⟩ : ∃ m, L.length = m := ⟨_, rfl⟩
  obtain ⟨m2, hm2⟩ : ∃ m2, R.length = m2 := ⟨_, rfl⟩
  have HM := hide hm
  have HM2 := hide hm2
  obtain ⟨A, hA⟩ : ∃ A, alk (Pv.pg ⟨kind, level, aI, cI, L, aD, cD, data, next⟩) (Pv.pg ⟨kind2, level2, aI2, cI2, R, aD2, cD2, data2, next2⟩) = A := ⟨_, rfl⟩
  obtain ⟨J, hJ⟩ : ∃ J, jnd (Pv.pg ⟨kind, level, aI, cI, L, aD, cD, data, next⟩) (Pv.pg ⟨kind2, level2, aI2, cI2, R, aD2, cD2, data2, next2⟩) s = J := ⟨_, rfl⟩
  have ZE : Hid (Z = if A = true ∧ mayL m2 m = true then prt ((Pv.pg ⟨kind, level, aI, cI, L, aD, cD, data, next⟩).wi (J.take (m + 1))) ((Pv.pg ⟨kind2, level2, aI2, cI2, R, aD2, cD2, data2, next2⟩).wi (J.drop (m + 1))) else Hv.none) := by
    show _ = _
    have e1 : (Pv.pg ⟨kind, level, aI, cI, L, aD, cD, data, next⟩).items.length = m := by rw [← hm]; exact List.length_map _
    have e2 : (Pv.pg ⟨kind2, level2, aI2, cI2, R, aD2, cD2, data2, next2⟩).items.length = m2 := by rw [← hm2]; exact List.length_map _
    rw [← HZ.out]
    unfold lend
    rw [hA, e1, e2, hJ]
    rfl
  simp only [hA] at AK
  simp only [hJ] at JO SJ JLN
  clear hA hJ HZ
  simp only [hm, hm2] at n1 n2 JO AK WL WR JLN ⊢
  clear hm hm2
  have U4 := hide (four_blocks w (.cells #[.int .i64 kind, .int .i64 level, .slice aI m cI, .slice aD data.length cD, .int .i64 next] 25) (.cells #[.int .i64 kind2, .int .i64 level2, .slice aI2 m2 cI2, .slice aD2 data2.length cD2, .int .i64 next2] 25) (.cells #[.int .i64 0, .int .i64 0, .slice none 0 0, .slice none 0 0, .int .i64 0] 25) (.cells #[.int .i64 0, .int .i64 0, .slice none 0 0, .slice none 0 0, .int .i64 0] 25))
  go_enter Try.func12, Try.ntmps12
  go_wp2_with fail
  have BP := hide U4.out.1
  have BQ := hide U4.out.2.1
  have BR1 := hide U4.out.2.2.1
  have BR2 := hide U4.out.2.2.2.1
  have B4 := hide U4.out.2.2.2.2
  clear U4
  generalize ((((w.alloc (.cells #[.int .i64 kind, .int .i64 level, .slice aI m cI, .slice aD data.length cD, .int .i64 next] 25)).alloc (.cells #[.int .i64 kind2, .int .i64 level2, .slice aI2 m2 cI2, .slice aD2 data2.length cD2, .int .i64 next2] 25)).alloc (.cells #[.int .i64 0, .int .i64 0, .slice none 0 0, .slice none 0 0, .int .i64 0] 25)).alloc (.cells #[.int .i64 0, .int .i64 0, .slice none 0 0, .slice none 0 0, .int .i64 0] 25)) = w4 at *
  have hz4 : w.heap.size + 3 < w4.heap.size := (Array.getElem?_eq_some_iff.1 BR2.out).1
  have SS := hide fun (W : World) (hb : Below w4.heap.size w4 W) => And.intro (cells5 (blk_keep BP.out hb)) (cells5 (blk_keep BQ.out hb))
  have D4 := hide (dr2 w4)
  have WM : Hid (IntKind.i64.wrap ((m : Int) + 1) = ((m + 1 : Nat) : Int)) := (wrapI (by omega) (by omega)).trans (by omega)
  go_cut [12, 13, 14] from 16 to 21 (fun p12 p13 v14 wx => ∃ (g h : Nat), p12 = .pointer (some ⟨g, 0, none⟩) ∧ p13 = .pointer (some ⟨h, 0, none⟩) ∧ v14 = .int .i64 ((m + 1 : Nat) : Int) ∧ Gt w4 wx g h #[.int .i64 kind2, .int .i64 level2, .slice aI2 m2 cI2, .slice aD2 data2.length cD2, .int .i64 next2] #[.int .i64 kind, .int .i64 level, .slice aI m cI, .slice aD data.length cD, .int .i64 next])
  case first =>
    refine wp_region_held_drew (S := fun W => (W.cell? ⟨w.heap.size, 0, none⟩ = some (.int .i64 kind) ∧ W.cell? ⟨w.heap.size, 1, none⟩ = some (.int .i64 level) ∧ W.cell? ⟨w.heap.size, 2, none⟩ = some (.slice aI m cI) ∧ W.cell? ⟨w.heap.size, 3, none⟩ = some (.slice aD data.length cD) ∧ W.cell? ⟨w.heap.size, 4, none⟩ = some (.int .i64 next)) ∧ (W.cell? ⟨w.heap.size + 1, 0, none⟩ = some (.int .i64 kind2) ∧ W.cell? ⟨w.heap.size + 1, 1, none⟩ = some (.int .i64 level2) ∧ W.cell? ⟨w.heap.size + 1, 2, none⟩ = some (.slice aI2 m2 cI2) ∧ W.cell? ⟨w.heap.size + 1, 3, none⟩ = some (.slice aD2 data2.length cD2) ∧ W.cell? ⟨w.heap.size + 1, 4, none⟩ = some (.int .i64 next2))) (by kernel_rfl) (SS.out _ D4.out) (fun hHeld => ?_)
    refine wpAnyH_take (i := 0) (v := ?vaa0) rfl (by kernel_rfl) (by kernel_rfl) (by kernel_rfl) (fun _ _ _ h => h) (Or.inl ⟨by rfl, ?hya0⟩) (by assumption) ?raa0
    case hya0 => (intro wq hSw; (try dsimp only at hSw); obtain ⟨⟨e0, e1, e2, e3, e4⟩, g0, g1, g2, g3, g4⟩ := hSw; go_simp <;> with_reducible rfl)
    try simp only [Act.put, List.getElem_toArray, List.getElem_cons_zero, List.setIfInBounds_toArray, List.set_cons_zero, List.set_cons_succ]
    refine wpAnyH_take (i := 1) (v := ?vaa1) rfl (by kernel_rfl) (by kernel_rfl) (by kernel_rfl) (fun _ _ _ h => h) (Or.inl ⟨by rfl, ?hya1⟩) (by assumption) ?raa1
    case hya1 => (intro wq hSw; (try dsimp only at hSw); obtain ⟨⟨e0, e1, e2, e3, e4⟩, g0, g1, g2, g3, g4⟩ := hSw; go_simp <;> with_reducible rfl)
    try simp only [Act.put, List.getElem_toArray, List.getElem_cons_zero, List.getElem_cons_succ, List.setIfInBounds_toArray, List.set_cons_zero, List.set_cons_succ]
    refine wpAnyH_take (i := 2) (v := ?vaa2) rfl (by kernel_rfl) (by kernel_rfl) (by kernel_rfl) (fun _ _ _ h => h) (Or.inl ⟨by rfl, ?hya2⟩) (by assumption) ?raa2
    case hya2 => (intro wq hSw; (try dsimp only at hSw); obtain ⟨⟨e0, e1, e2, e3, e4⟩, g0, g1, g2, g3, g4⟩ := hSw; go_simp <;> with_reducible rfl)
    try simp only [Act.put, List.getElem_toArray, List.getElem_cons_zero, List.getElem_cons_succ, List.setIfInBounds_toArray, List.set_cons_zero, List.set_cons_succ]
    refine wpAnyH_take (i := 3) (v := ?vaa3) rfl (by kernel_rfl) (by kernel_rfl) (by kernel_rfl) (fun _ _ _ h => h) (Or.inl ⟨by rfl, ?hya3⟩) (by assumption) ?raa3
    case hya3 => (intro wq hSw; (try dsimp only at hSw); obtain ⟨⟨e0, e1, e2, e3, e4⟩, g0, g1, g2, g3, g4⟩ := hSw; go_simp <;> with_reducible rfl)
    try simp only [Act.put, List.getElem_toArray, List.getElem_cons_zero, List.getElem_cons_succ, List.setIfInBounds_toArray, List.set_cons_zero, List.set_cons_succ]
    refine wpAnyH_take (i := 4) (v := ?vaa4) rfl (by kernel_rfl) (by kernel_rfl) (by kernel_rfl) (fun _ _ _ h => h) (Or.inl ⟨by rfl, ?hya4⟩) (by assumption) ?raa4
    case hya4 => (intro wq hSw; (try dsimp only at hSw); obtain ⟨⟨e0, e1, e2, e3, e4⟩, g0, g1, g2, g3, g4⟩ := hSw; go_simp <;> with_reducible rfl)
    try simp only [Act.put, List.getElem_toArray, List.getElem_cons_zero, List.getElem_cons_succ, List.setIfInBounds_toArray, List.set_cons_zero, List.set_cons_succ]
    refine wpAnyH_take (i := 5) (v := ?vaa5) rfl (by kernel_rfl) (by kernel_rfl) (by kernel_rfl) (fun _ _ _ h => h) (Or.inl ⟨by rfl, ?hya5⟩) (by assumption) ?raa5
    case hya5 => (intro wq hSw; (try dsimp only at hSw); obtain ⟨⟨e0, e1, e2, e3, e4⟩, g0, g1, g2, g3, g4⟩ := hSw; go_simp <;> with_reducible rfl)
    try simp only [Act.put, List.getElem_toArray, List.getElem_cons_zero, List.getElem_cons_succ, List.setIfInBounds_toArray, List.set_cons_zero, List.set_cons_succ]
    have BB := D4
    clear D4
    generalize w4.drew = v0 at *
    refine wpAnyH_ready (rs := [6, 7]) (by kernel_rfl) (by simp) ?_
    refine AllReadyH.cons rfl (fun K hK => ?_) (AllReadyH.cons rfl (fun K hK => ?_) AllReadyH.nil)
    · go_simp
      have AL := hide (al v0 (.cells #[.int .i64 0, .int .i64 0, .slice none 0 0, .slice none 0 0, .int .i64 0] 25))
      have LA : Hid (w4.heap.size ≤ v0.heap.size) := BB.out.size
      replace BB := hide (bt BB.out AL.out)
      have XA := hide (heap_alloc_new v0 (.cells #[.int .i64 0, .int .i64 0, .slice none 0 0, .slice none 0 0, .int .i64 0] 25))
      refine hK.out _ _ (SS.out _ BB.out) (fun hHeld => ?_)
      clear hK K AL
      try simp only [Act.put, List.getElem_toArray, List.getElem_cons_zero, List.getElem_cons_succ, List.setIfInBounds_toArray, List.set_cons_zero, List.set_cons_succ]
      generalize (v0.alloc (.cells #[.int .i64 0, .int .i64 0, .slice none 0 0, .slice none 0 0, .int .i64 0] 25)) = v1 at *
      generalize v0.heap.size = gA at *
      refine wpAnyH_ready (rs := [7]) (by kernel_rfl) (by simp) ?_
      refine AllReadyH.cons rfl (fun K hK => ?_) AllReadyH.nil
      go_simp
      have AL := hide (al v1 (.cells #[.int .i64 0, .int .i64 0, .slice none 0 0, .slice none 0 0, .int .i64 0] 25))
      have LB : Hid (w4.heap.size ≤ v1.heap.size) := BB.out.size
      have NE : Hid (v1.heap.size ≠ gA) := by have := (Array.getElem?_eq_some_iff.1 XA.out).1; show _ ≠ _; omega
      replace XA := hide (blk_keep XA.out AL.out)
      replace BB := hide (bt BB.out AL.out)
      have XB := hide (heap_alloc_new v1 (.cells #[.int .i64 0, .int .i64 0, .slice none 0 0, .slice none 0 0, .int .i64 0] 25))
      refine hK.out _ _ (SS.out _ BB.out) (fun hHeld => ?_)
      clear hK K AL
      try simp only [Act.put, List.getElem_toArray, List.getElem_cons_zero, List.getElem_cons_succ, List.setIfInBounds_toArray, List.set_cons_zero, List.set_cons_succ]
      generalize (v1.alloc (.cells #[.int .i64 0, .int .i64 0, .slice none 0 0, .slice none 0 0, .int .i64 0] 25)) = v2 at *
      generalize v1.heap.size = gB at *
      have hA : w.heap.size ≠ gA ∧ w.heap.size + 1 ≠ gA := by have := LA.out; omega
      have hB2 : w.heap.size ≠ gB ∧ w.heap.size + 1 ≠ gB := by have := LB.out; omega
      have NN : Hid (gB ≠ gA) := NE.out
      have XB1 := hide (row_far (W := v2) (g := gA) #[.int .i64 kind2, .int .i64 level2, .slice aI2 m2 cI2, .slice aD2 data2.length cD2, .int .i64 next2] XB.out NN.out)
      refine wpAnyH_ready (rs := [8]) (by kernel_rfl) (by simp) ?_
      refine AllReadyH.cons rfl (fun K hK => ?_) AllReadyH.nil
      rw [if_pos (by rfl)]
      refine wp_store_row 25 _ _ rfl gA _ rfl rfl 25 _ XA.out sizePage rfl (by simp [Value.oneCell']) ?_
      refine hK.out _ _ ⟨cells5 (row_far _ (blk_keep BP.out BB.out) hA.1), cells5 (row_far _ (blk_keep BQ.out BB.out) hA.2)⟩ (fun hHeld => ?_)
      clear hK K
      try simp only [Act.put, List.getElem_toArray, List.getElem_cons_zero, List.getElem_cons_succ, List.setIfInBounds_toArray, List.set_cons_zero, List.set_cons_succ]
      refine wpAnyH_ready (rs := [9]) (by kernel_rfl) (by simp) ?_
      refine AllReadyH.cons rfl (fun K hK => ?_) AllReadyH.nil
      rw [if_pos (by rfl)]
      refine wp_store_row 25 _ _ rfl gB _ rfl rfl 25 _ XB1.out sizePage rfl (by simp [Value.oneCell']) ?_
      refine hK.out _ _ ⟨cells5 (row_far _ (row_far _ (blk_keep BP.out BB.out) hA.1) hB2.1), cells5 (row_far _ (row_far _ (blk_keep BQ.out BB.out) hA.2) hB2.2)⟩ (fun hHeld => ?_)
      clear hK K
      try simp only [Act.put, List.getElem_toArray, List.getElem_cons_zero, List.getElem_cons_succ, List.setIfInBounds_toArray, List.set_cons_zero, List.set_cons_succ]
      refine wpAnyH_take (i := 10) (v := ?vab10) rfl (by kernel_rfl) (by kernel_rfl) (by kernel_rfl) (fun _ _ _ h => h) (Or.inl ⟨by rfl, ?hyb10⟩) (by assumption) ?rab10
      case hyb10 => (intro wq hSw; (try dsimp only at hSw); obtain ⟨⟨e0, e1, e2, e3, e4⟩, g0, g1, g2, g3, g4⟩ := hSw; go_simp <;> with_reducible rfl)
      try simp only [Act.put, List.getElem_toArray, List.getElem_cons_zero, List.getElem_cons_succ, List.setIfInBounds_toArray, List.set_cons_zero, List.set_cons_succ]
      refine wpAnyH_done (by kernel_rfl) ?_ _
      clear hHeld
      go_wp2_with fail
      go_meet
      case rel => exact ⟨gA, gB, rfl, rfl, WM.out.symm ▸ rfl, ⟨row_far _ (setRow_heap _ _ _ _ _ _ XA.out) NN.out.symm, setRow_heap _ _ _ _ _ _ XB1.out, below_row _ (below_row _ BB.out LA.out) LB.out, LA.out, LB.out, NN.out.symm⟩⟩
    · go_simp
      have AL := hide (al v0 (.cells #[.int .i64 0, .int .i64 0, .slice none 0 0, .slice none 0 0, .int .i64 0] 25))
      have LB : Hid (w4.heap.size ≤ v0.heap.size) := BB.out.size
      replace BB := hide (bt BB.out AL.out)
      have XB := hide (heap_alloc_new v0 (.cells #[.int .i64 0, .int .i64 0, .slice none 0 0, .slice none 0 0, .int .i64 0] 25))
      refine hK.out _ _ (SS.out _ BB.out) (fun hHeld => ?_)
      clear hK K AL
      try simp only [Act.put, List.getElem_toArray, List.getElem_cons_zero, List.getElem_cons_succ, List.setIfInBounds_toArray, List.set_cons_zero, List.set_cons_succ]
      generalize (v0.alloc (.cells #[.int .i64 0, .int .i64 0, .slice none 0 0, .slice none 0 0, .int .i64 0] 25)) = v1 at *
      generalize v0.heap.size = gB at *
      refine wpAnyH_ready (rs := [6]) (by kernel_rfl) (by simp) ?_
      refine AllReadyH.cons rfl (fun K hK => ?_) AllReadyH.nil
      go_simp
      have AL := hide (al v1 (.cells #[.int .i64 0, .int .i64 0, .slice none 0 0, .slice none 0 0, .int .i64 0] 25))
      have LA : Hid (w4.heap.size ≤ v1.heap.size) := BB.out.size
      have NE : Hid (v1.heap.size ≠ gB) := by have := (Array.getElem?_eq_some_iff.1 XB.out).1; show _ ≠ _; omega
      replace XB := hide (blk_keep XB.out AL.out)
      replace BB := hide (bt BB.out AL.out)
      have XA := hide (heap_alloc_new v1 (.cells #[.int .i64 0, .int .i64 0, .slice none 0 0, .slice none 0 0, .int .i64 0] 25))
      refine hK.out _ _ (SS.out _ BB.out) (fun hHeld => ?_)
      clear hK K AL
      try simp only [Act.put, List.getElem_toArray, List.getElem_cons_zero, List.getElem_cons_succ, List.setIfInBounds_toArray, List.set_cons_zero, List.set_cons_succ]
      generalize (v1.alloc (.cells #[.int .i64 0, .int .i64 0, .slice none 0 0, .slice none 0 0, .int .i64 0] 25)) = v2 at *
      generalize v1.heap.size = gA at *
      have hA : w.heap.size ≠ gA ∧ w.heap.size + 1 ≠ gA := by have := LA.out; omega
      have hB2 : w.heap.size ≠ gB ∧ w.heap.size + 1 ≠ gB := by have := LB.out; omega
      have NN : Hid (gB ≠ gA) := fun e => NE.out e.symm
      have XB1 := hide (row_far (W := v2) (g := gA) #[.int .i64 kind2, .int .i64 level2, .slice aI2 m2 cI2, .slice aD2 data2.length cD2, .int .i64 next2] XB.out NN.out)
      refine wpAnyH_ready (rs := [8]) (by kernel_rfl) (by simp) ?_
      refine AllReadyH.cons rfl (fun K hK => ?_) AllReadyH.nil
      rw [if_pos (by rfl)]
      refine wp_store_row 25 _ _ rfl gA _ rfl rfl 25 _ XA.out sizePage rfl (by simp [Value.oneCell']) ?_
      refine hK.out _ _ ⟨cells5 (row_far _ (blk_keep BP.out BB.out) hA.1), cells5 (row_far _ (blk_keep BQ.out BB.out) hA.2)⟩ (fun hHeld => ?_)
      clear hK K
      try simp only [Act.put, List.getElem_toArray, List.getElem_cons_zero, List.getElem_cons_succ, List.setIfInBounds_toArray, List.set_cons_zero, List.set_cons_succ]
      refine wpAnyH_ready (rs := [9]) (by kernel_rfl) (by simp) ?_
      refine AllReadyH.cons rfl (fun K hK => ?_) AllReadyH.nil
      rw [if_pos (by rfl)]
      refine wp_store_row 25 _ _ rfl gB _ rfl rfl 25 _ XB1.out sizePage rfl (by simp [Value.oneCell']) ?_
      refine hK.out _ _ ⟨cells5 (row_far _ (row_far _ (blk_keep BP.out BB.out) hA.1) hB2.1), cells5 (row_far _ (row_far _ (blk_keep BQ.out BB.out) hA.2) hB2.2)⟩ (fun hHeld => ?_)
      clear hK K
      try simp only [Act.put, List.getElem_toArray, List.getElem_cons_zero, List.getElem_cons_succ, List.setIfInBounds_toArray, List.set_cons_zero, List.set_cons_succ]
      refine wpAnyH_take (i := 10) (v := ?vac10) rfl (by kernel_rfl) (by kernel_rfl) (by kernel_rfl) (fun _ _ _ h => h) (Or.inl ⟨by rfl, ?hyc10⟩) (by assumption) ?rac10
      case hyc10 => (intro wq hSw; (try dsimp only at hSw); obtain ⟨⟨e0, e1, e2, e3, e4⟩, g0, g1, g2, g3, g4⟩ := hSw; go_simp <;> with_reducible rfl)
      try simp only [Act.put, List.getElem_toArray, List.getElem_cons_zero, List.getElem_cons_succ, List.setIfInBounds_toArray, List.set_cons_zero, List.set_cons_succ]
      refine wpAnyH_done (by kernel_rfl) ?_ _
      clear hHeld
      go_wp2_with fail
      go_meet
      case rel => exact ⟨gA, gB, rfl, rfl, WM.out.symm ▸ rfl, ⟨row_far _ (setRow_heap _ _ _ _ _ _ XA.out) NN.out.symm, setRow_heap _ _ _ _ _ _ XB1.out, below_row _ (below_row _ BB.out LA.out) LB.out, LA.out, LB.out, NN.out.symm⟩⟩
  case rest =>
    obtain ⟨g12, g13, rfl, rfl, rfl, hG⟩ := hcut
    have G0 := hide hG
    clear hG
    obtain ⟨p0, p1, p2, p3, p4⟩ := cells5 (blk_keep BP.out G0.out.b)
    obtain ⟨q0, q1, q2, q3, q4⟩ := cells5 (blk_keep BQ.out G0.out.b)
    go_wp2_with fail
    refine (AK.out _).mono ?_
    rintro _ w9 ⟨rfl, h9⟩
    have BX := hide (bt G0.out.b h9)
    have XG := hide (blk_keep G0.out.x h9)
    have XT := hide (blk_keep G0.out.y h9)
    clear h9 AK p0 p1 p2 p3 p4 q0 q1 q2 q3 q4 G0 SS WM
    obtain ⟨p0, p1, p2, p3, p4⟩ := cells5 (blk_keep BP.out BX.out)
    obtain ⟨q0, q1, q2, q3, q4⟩ := cells5 (blk_keep BQ.out BX.out)
    obtain ⟨x0, x1, x2, x3, x4⟩ := cells5 XG.out
    obtain ⟨y0, y1, y2, y3, y4⟩ := cells5 XT.out
    by_cases hall : A = true ∧ mayL m2 m = true
    · rw [if_pos hall] at ZE
      obtain ⟨hA, hM⟩ := hall
      have hb2 : 2 ≤ m2 ∧ 1 ≤ m ∧ m < 8 := by unfold mayL at hM; simp at hM; omega
      have d2 : decide ((m2 : Int) < 2) = false := decide_eq_false (by omega)
      have d1 : decide ((m : Int) < 1) = false := decide_eq_false (by omega)
      have d8 : decide (8 ≤ (m : Int)) = false := decide_eq_false (by omega)
      subst hA
      clear hM
      go_wp2_with fail
      refine (JO.out _ (bt B4.out BX.out) (by omega) (by omega)).mono ?_
      rintro _ w6 ⟨al', rfl, hq, hg, hb⟩
      have GJ := hide hg
      have JE : Hid (J = al'.items.map Iv.it) := (congrArg Pg.items hg).symm
      have LAL : Hid (al'.items.length = m + m2) := by
        have := congrArg List.length JE.out
        rw [List.length_map, JLN.out] at this
        show _ = _
        omega
      have SAL : Hid (Sml al'.items) := fun x hx => SJ.out x.it (by rw [JE.out]; exact List.mem_map_of_mem hx)
      have A15 := hide (al w6 (.cells #[.int .i64 al'.kind, .int .i64 al'.level, .slice al'.aI al'.items.length al'.cI, .slice al'.aD al'.data.length al'.cD, .int .i64 al'.next] 25))
      have X15 := hide (heap_alloc_new w6 (.cells #[.int .i64 al'.kind, .int .i64 al'.level, .slice al'.aI al'.items.length al'.cI, .slice al'.aD al'.data.length al'.cD, .int .i64 al'.next] 25))
      have PA := hide ((hq.pi (by rw [LAL.out]; omega)).keep A15.out)
      have BN := hide (bt BX.out (bt hb A15.out))
      have B3 := hide (bt B4.out BN.out)
      replace BP := hide (blk_keep BP.out BN.out)
      replace BQ := hide (blk_keep BQ.out BN.out)
      replace BR1 := hide (blk_keep BR1.out BN.out)
      replace BR2 := hide (blk_keep BR2.out BN.out)
      have hz6 : w.heap.size + 3 < w6.heap.size := by have := BX.out.size; have := hb.size; omega
      clear hq hg hb JO XG XT p0 p1 p2 p3 p4 q0 q1 q2 q3 q4 x0 x1 x2 x3 x4 y0 y1 y2 y3 y4 d1 d2 d8 GJ JLN SJ BN
      go_wp2_with fail
      generalize (w6.alloc (.cells #[.int .i64 al'.kind, .int .i64 al'.level, .slice al'.aI al'.items.length al'.cI, .slice al'.aD al'.data.length al'.cD, .int .i64 al'.next] 25)) = w3 at *
      have HZ : Hid (prt ((Pv.pg ⟨kind, level, aI, cI, L, aD, cD, data, next⟩).wi ((al'.items.take (m + 1)).map Iv.it)) ((Pv.pg ⟨kind2, level2, aI2, cI2, R, aD2, cD2, data2, next2⟩).wi ((al'.items.drop (m + 1)).map Iv.it)) = Z) := by
        show _ = _
        rw [ZE.out, JE.out, List.map_take, List.map_drop]
      clear ZE JE
      have SS := hide fun (W : World) (hb : Below w3.heap.size w3 W) => (show (W.cell? ⟨w.heap.size, 0, none⟩ = some (.int .i64 kind) ∧ W.cell? ⟨w.heap.size, 1, none⟩ = some (.int .i64 level) ∧ W.cell? ⟨w.heap.size, 2, none⟩ = some (.slice aI m cI) ∧ W.cell? ⟨w.heap.size, 3, none⟩ = some (.slice aD data.length cD) ∧ W.cell? ⟨w.heap.size, 4, none⟩ = some (.int .i64 next)) ∧ (W.cell? ⟨w.heap.size + 1, 0, none⟩ = some (.int .i64 kind2) ∧ W.cell? ⟨w.heap.size + 1, 1, none⟩ = some (.int .i64 level2) ∧ W.cell? ⟨w.heap.size + 1, 2, none⟩ = some (.slice aI2 m2 cI2) ∧ W.cell? ⟨w.heap.size + 1, 3, none⟩ = some (.slice aD2 data2.length cD2) ∧ W.cell? ⟨w.heap.size + 1, 4, none⟩ = some (.int .i64 next2)) ∧ (W.cell? ⟨w6.heap.size, 0, none⟩ = some (.int .i64 al'.kind) ∧ W.cell? ⟨w6.heap.size, 1, none⟩ = some (.int .i64 al'.level) ∧ W.cell? ⟨w6.heap.size, 2, none⟩ = some (.slice al'.aI al'.items.length al'.cI) ∧ W.cell? ⟨w6.heap.size, 3, none⟩ = some (.slice al'.aD al'.data.length al'.cD) ∧ W.cell? ⟨w6.heap.size, 4, none⟩ = some (.int .i64 al'.next)) from ⟨cells5 (blk_keep BP.out hb), cells5 (blk_keep BQ.out hb), cells5 (blk_keep X15.out hb)⟩)
      have D3 := hide (dr2 w3)
      have FA := hide fun (W : World) (hb : Below w3.heap.size w3 W) (n : Nat) (hn : n ≤ al'.items.length) => first_any W al' n (PA.out.keep hb) hn
      have FB := hide fun (W : World) (hb : Below w3.heap.size w3 W) (n : Nat) (hn : n ≤ al'.items.length) => from_any W al' n (PA.out.keep hb) hn
      unfold Pv.vl at FA FB
      simp only [Pv.cs] at FA FB
      have hz3 : w6.heap.size < w3.heap.size := (Array.getElem?_eq_some_iff.1 X15.out).1
      refine wp_region_held_drew (S := fun W => (W.cell? ⟨w.heap.size, 0, none⟩ = some (.int .i64 kind) ∧ W.cell? ⟨w.heap.size, 1, none⟩ = some (.int .i64 level) ∧ W.cell? ⟨w.heap.size, 2, none⟩ = some (.slice aI m cI) ∧ W.cell? ⟨w.heap.size, 3, none⟩ = some (.slice aD data.length cD) ∧ W.cell? ⟨w.heap.size, 4, none⟩ = some (.int .i64 next)) ∧ (W.cell? ⟨w.heap.size + 1, 0, none⟩ = some (.int .i64 kind2) ∧ W.cell? ⟨w.heap.size + 1, 1, none⟩ = some (.int .i64 level2) ∧ W.cell? ⟨w.heap.size + 1, 2, none⟩ = some (.slice aI2 m2 cI2) ∧ W.cell? ⟨w.heap.size + 1, 3, none⟩ = some (.slice aD2 data2.length cD2) ∧ W.cell? ⟨w.heap.size + 1, 4, none⟩ = some (.int .i64 next2)) ∧ (W.cell? ⟨w6.heap.size, 0, none⟩ = some (.int .i64 al'.kind) ∧ W.cell? ⟨w6.heap.size, 1, none⟩ = some (.int .i64 al'.level) ∧ W.cell? ⟨w6.heap.size, 2, none⟩ = some (.slice al'.aI al'.items.length al'.cI) ∧ W.cell? ⟨w6.heap.size, 3, none⟩ = some (.slice al'.aD al'.data.length al'.cD) ∧ W.cell? ⟨w6.heap.size, 4, none⟩ = some (.int .i64 al'.next))) (by kernel_rfl) (SS.out _ D3.out) (fun hHeld => ?_)
      refine wpAnyH_take (i := 0) (v := ?vap0) rfl (by kernel_rfl) (by kernel_rfl) (by kernel_rfl) (fun _ _ _ h => h) (Or.inl ⟨by rfl, ?hyp0⟩) (by assumption) ?rap0
      case hyp0 => (intro wq hSw; (try dsimp only at hSw); obtain ⟨⟨e0, e1, e2, e3, e4⟩, ⟨g0, g1, g2, g3, g4⟩, h0, h1, h2, h3, h4⟩ := hSw; go_simp <;> with_reducible rfl)
      try simp only [Act.put, List.getElem_toArray, List.getElem_cons_zero, List.setIfInBounds_toArray, List.set_cons_zero, List.set_cons_succ]
      refine wpAnyH_take (i := 1) (v := ?vap1) rfl (by kernel_rfl) (by kernel_rfl) (by kernel_rfl) (fun _ _ _ h => h) (Or.inl ⟨by rfl, ?hyp1⟩) (by assumption) ?rap1
      case hyp1 => (intro wq hSw; (try dsimp only at hSw); obtain ⟨⟨e0, e1, e2, e3, e4⟩, ⟨g0, g1, g2, g3, g4⟩, h0, h1, h2, h3, h4⟩ := hSw; go_simp <;> with_reducible rfl)
      try simp only [Act.put, List.getElem_toArray, List.getElem_cons_zero, List.getElem_cons_succ, List.setIfInBounds_toArray, List.set_cons_zero, List.set_cons_succ]
      refine wpAnyH_take (i := 2) (v := ?vap2) rfl (by kernel_rfl) (by kernel_rfl) (by kernel_rfl) (fun _ _ _ h => h) (Or.inl ⟨by rfl, ?hyp2⟩) (by assumption) ?rap2
      case hyp2 => (intro wq hSw; (try dsimp only at hSw); obtain ⟨⟨e0, e1, e2, e3, e4⟩, ⟨g0, g1, g2, g3, g4⟩, h0, h1, h2, h3, h4⟩ := hSw; go_simp <;> with_reducible rfl)
      try simp only [Act.put, List.getElem_toArray, List.getElem_cons_zero, List.getElem_cons_succ, List.setIfInBounds_toArray, List.set_cons_zero, List.set_cons_succ]
      refine wpAnyH_take (i := 6) (v := ?vap6) rfl (by kernel_rfl) (by kernel_rfl) (by kernel_rfl) (fun _ _ _ h => h) (Or.inl ⟨by rfl, ?hyp6⟩) (by assumption) ?rap6
      case hyp6 => (intro wq hSw; (try dsimp only at hSw); obtain ⟨⟨e0, e1, e2, e3, e4⟩, ⟨g0, g1, g2, g3, g4⟩, h0, h1, h2, h3, h4⟩ := hSw; go_simp <;> with_reducible rfl)
      try simp only [Act.put, List.getElem_toArray, List.getElem_cons_zero, List.getElem_cons_succ, List.setIfInBounds_toArray, List.set_cons_zero, List.set_cons_succ]
      refine wpAnyH_take (i := 7) (v := ?vap7) rfl (by kernel_rfl) (by kernel_rfl) (by kernel_rfl) (fun _ _ _ h => h) (Or.inl ⟨by rfl, ?hyp7⟩) (by assumption) ?rap7
      case hyp7 => (intro wq hSw; (try dsimp only at hSw); obtain ⟨⟨e0, e1, e2, e3, e4⟩, ⟨g0, g1, g2, g3, g4⟩, h0, h1, h2, h3, h4⟩ := hSw; go_simp <;> with_reducible rfl)
      try simp only [Act.put, List.getElem_toArray, List.getElem_cons_zero, List.getElem_cons_succ, List.setIfInBounds_toArray, List.set_cons_zero, List.set_cons_succ]
      refine wpAnyH_take (i := 8) (v := ?vap8) rfl (by kernel_rfl) (by kernel_rfl) (by kernel_rfl) (fun _ _ _ h => h) (Or.inl ⟨by rfl, ?hyp8⟩) (by assumption) ?rap8
      case hyp8 => (intro wq hSw; (try dsimp only at hSw); obtain ⟨⟨e0, e1, e2, e3, e4⟩, ⟨g0, g1, g2, g3, g4⟩, h0, h1, h2, h3, h4⟩ := hSw; go_simp <;> with_reducible rfl)
      try simp only [Act.put, List.getElem_toArray, List.getElem_cons_zero, List.getElem_cons_succ, List.setIfInBounds_toArray, List.set_cons_zero, List.set_cons_succ]
      refine wpAnyH_ready (rs := [3]) (by kernel_rfl) (by simp) ?_
      refine AllReadyH.cons rfl (fun K hK => ?_) AllReadyH.nil
      go_simp
      refine (FA.out _ D3.out (m + 1) (by have := LAL.out; omega)).mono ?_
      rintro _ w5 ⟨a1, rfl, j1, b1⟩
      have J1 := hide j1
      have B5 := hide (bt D3.out b1)
      clear j1 b1
      go_wp2_with fail
      refine hK.out _ _ (SS.out _ B5.out) (fun hHeld => ?_)
      clear hK K
      try simp only [Act.put, List.getElem_toArray, List.getElem_cons_zero, List.getElem_cons_succ, List.setIfInBounds_toArray, List.set_cons_zero, List.set_cons_succ]
      have PX1 := hide (Px.one (n1 := (m + 1)) (c1 := (m + 1)) J1.out (by rw [List.length_take]; have := LAL.out; omega) (SAL.out.take (m + 1)) (by rw [List.length_take]; have := LAL.out; omega))
      refine wpAnyH_ready (rs := [4]) (by kernel_rfl) (by simp) ?_
      refine AllReadyH.cons rfl (fun K hK => ?_) AllReadyH.nil
      go_simp
      have B6 := hide (bt B5.out (al w5 (.cells #[.slice a1 (m + 1) (m + 1)] 22)))
      refine hK.out _ _ (SS.out _ B6.out) (fun hHeld => ?_)
      clear hK K
      try simp only [Act.put, List.getElem_toArray, List.getElem_cons_zero, List.getElem_cons_succ, List.setIfInBounds_toArray, List.set_cons_zero, List.set_cons_succ]
      refine wpAnyH_ready (rs := [5]) (by kernel_rfl) (by simp) ?_
      refine AllReadyH.cons rfl (fun K hK => ?_) AllReadyH.nil
      go_simp
      refine (WL.out _ (bt B3.out B6.out) _ 1 _ rfl (by decide) PX1.out).mono ?_
      rintro _ w7 ⟨q1, rfl, hq1, hg1, b7⟩
      have Q1 := hide hq1
      have G1 := hide hg1
      have B67 := hide b7
      have B7 := hide (bt B6.out b7)
      clear hq1 hg1 b7
      go_wp2_with fail
      refine hK.out _ _ (SS.out _ B7.out) (fun hHeld => ?_)
      clear hK K
      try simp only [Act.put, List.getElem_toArray, List.getElem_cons_zero, List.getElem_cons_succ, List.setIfInBounds_toArray, List.set_cons_zero, List.set_cons_succ]
      refine wpAnyH_ready (rs := [9]) (by kernel_rfl) (by simp) ?_
      refine AllReadyH.cons rfl (fun K hK => ?_) AllReadyH.nil
      go_simp
      refine (FB.out _ B7.out (m + 1) (by have := LAL.out; omega)).mono ?_
      rintro _ w8 ⟨a2, c2, rfl, j2, b8⟩
      have J2 := hide j2
      have B78 := hide b8
      have B8 := hide (bt B7.out b8)
      clear j2 b8
      go_wp2_with fail
      refine hK.out _ _ (SS.out _ B8.out) (fun hHeld => ?_)
      clear hK K
      try simp only [Act.put, List.getElem_toArray, List.getElem_cons_zero, List.getElem_cons_succ, List.setIfInBounds_toArray, List.set_cons_zero, List.set_cons_succ]
      have PX2 := hide (Px.one (n1 := (al'.items.length - (m + 1))) (c1 := c2) J2.out (by rw [List.length_drop]) (SAL.out.drop (m + 1)) (by rw [List.length_drop]; have := LAL.out; omega))
      refine wpAnyH_ready (rs := [10]) (by kernel_rfl) (by simp) ?_
      refine AllReadyH.cons rfl (fun K hK => ?_) AllReadyH.nil
      go_simp
      have A89 := hide (al w8 (.cells #[.slice a2 (al'.items.length - (m + 1)) c2] 22))
      have B9 := hide (bt B8.out A89.out)
      refine hK.out _ _ (SS.out _ B9.out) (fun hHeld => ?_)
      clear hK K
      try simp only [Act.put, List.getElem_toArray, List.getElem_cons_zero, List.getElem_cons_succ, List.setIfInBounds_toArray, List.set_cons_zero, List.set_cons_succ]
      refine wpAnyH_ready (rs := [11]) (by kernel_rfl) (by simp) ?_
      refine AllReadyH.cons rfl (fun K hK => ?_) AllReadyH.nil
      go_simp
      refine (WR.out _ (bt B3.out B9.out) _ 1 _ rfl (by decide) PX2.out).mono ?_
      rintro _ w10 ⟨q2, rfl, hq2, hg2, b10⟩
      have G2 := hide hg2
      have HH := hide (Hq.make (v := w3) Q1.out B6.out B67.out (bt B78.out A89.out) hq2 b10)
      have B10 := hide (bt B9.out b10)
      clear hq2 hg2 b10
      go_wp2_with fail
      refine hK.out _ _ (SS.out _ B10.out) (fun hHeld => ?_)
      clear hK K
      try simp only [Act.put, List.getElem_toArray, List.getElem_cons_zero, List.getElem_cons_succ, List.setIfInBounds_toArray, List.set_cons_zero, List.set_cons_succ]
      have E1 : Hid (q1.items.length = (m + 1)) := by
        show _ = _
        have := congrArg (fun p : Pg => p.items.length) G1.out
        simpa [flt, Pv.pg] using (this.trans (by simp [flt]; have := LAL.out; omega))
      have E2 : Hid (q2.items.length = (al'.items.length - (m + 1))) := by
        show _ = _
        have := congrArg (fun p : Pg => p.items.length) G2.out
        simpa [flt, Pv.pg] using (this.trans (by simp [flt]))
      have GP1 : Hid (q1.pg = (Pv.pg ⟨kind, level, aI, cI, L, aD, cD, data, next⟩).wi ((al'.items.take (m + 1)).map Iv.it)) := by
        show _ = _
        rw [G1.out]
        simp [flt, Pg.wi]
      have GP2 : Hid (q2.pg = (Pv.pg ⟨kind2, level2, aI2, cI2, R, aD2, cD2, data2, next2⟩).wi ((al'.items.drop (m + 1)).map Iv.it)) := by
        show _ = _
        rw [G2.out]
        simp [flt, Pg.wi]
      have PT := hide (parted_any w3 w10 q1 q2 HH.out (by rw [E1.out]; omega) (by rw [E2.out]; have := LAL.out; omega) (by rw [E1.out]; omega) (by rw [E2.out]; have := LAL.out; omega))
      rw [GP1.out, GP2.out, HZ.out] at PT
      unfold Pv.vl at PT
      simp only [Pv.cs] at PT
      refine wpAnyH_ready (rs := [12]) (by kernel_rfl) (by simp) ?_
      refine AllReadyH.cons rfl (fun K hK => ?_) AllReadyH.nil
      go_simp
      refine PT.out.mono ?_
      rintro _ w11 ⟨p1, p2, aS, cS, rfl, hH, hp1, hp2⟩
      have HQ := hide hH
      have P1 := hide hp1
      have P2 := hide hp2
      have B11 := hide hH.b
      clear hH hp1 hp2
      go_wp2_with fail
      refine hK.out _ _ (SS.out _ B11.out) (fun hHeld => ?_)
      clear hK K
      try simp only [Act.put, List.getElem_toArray, List.getElem_cons_zero, List.getElem_cons_succ, List.setIfInBounds_toArray, List.set_cons_zero, List.set_cons_succ]
      have BR11 := hide (blk_keep BR1.out B11.out)
      have BR12 := hide (blk_keep BR2.out B11.out)
      refine wpAnyH_take (i := 13) (v := ?vap13) rfl (by kernel_rfl) (by kernel_rfl) (by kernel_rfl) (fun _ _ _ h => h) (Or.inl ⟨by rfl, ?hyp13⟩) (by assumption) ?rap13
      case hyp13 => (intro wq hSw; (try dsimp only at hSw); obtain ⟨⟨e0, e1, e2, e3, e4⟩, ⟨g0, g1, g2, g3, g4⟩, h0, h1, h2, h3, h4⟩ := hSw; go_simp <;> with_reducible rfl)
      try simp only [Act.put, List.getElem_toArray, List.getElem_cons_zero, List.getElem_cons_succ, List.setIfInBounds_toArray, List.set_cons_zero, List.set_cons_succ]
      refine wpAnyH_take (i := 14) (v := ?vap14) rfl (by kernel_rfl) (by kernel_rfl) (by kernel_rfl) (fun _ _ _ h => h) (Or.inl ⟨by rfl, ?hyp14⟩) (by assumption) ?rap14
      case hyp14 => (intro wq hSw; (try dsimp only at hSw); obtain ⟨⟨e0, e1, e2, e3, e4⟩, ⟨g0, g1, g2, g3, g4⟩, h0, h1, h2, h3, h4⟩ := hSw; go_simp <;> with_reducible rfl)
      try simp only [Act.put, List.getElem_toArray, List.getElem_cons_zero, List.getElem_cons_succ, List.setIfInBounds_toArray, List.set_cons_zero, List.set_cons_succ]
      refine wpAnyH_take (i := 15) (v := ?vap15) rfl (by kernel_rfl) (by kernel_rfl) (by kernel_rfl) (fun _ _ _ h => h) (Or.inl ⟨by rfl, ?hyp15⟩) (by assumption) ?rap15
      case hyp15 => (intro wq hSw; (try dsimp only at hSw); obtain ⟨⟨e0, e1, e2, e3, e4⟩, ⟨g0, g1, g2, g3, g4⟩, h0, h1, h2, h3, h4⟩ := hSw; go_simp <;> with_reducible rfl)
      try simp only [Act.put, List.getElem_toArray, List.getElem_cons_zero, List.getElem_cons_succ, List.setIfInBounds_toArray, List.set_cons_zero, List.set_cons_succ]
      refine wpAnyH_take (i := 16) (v := ?vap16) rfl (by kernel_rfl) (by kernel_rfl) (by kernel_rfl) (fun _ _ _ h => h) (Or.inl ⟨by rfl, ?hyp16⟩) (by assumption) ?rap16
      case hyp16 => (intro wq hSw; (try dsimp only at hSw); obtain ⟨⟨e0, e1, e2, e3, e4⟩, ⟨g0, g1, g2, g3, g4⟩, h0, h1, h2, h3, h4⟩ := hSw; go_simp <;> with_reducible rfl)
      try simp only [Act.put, List.getElem_toArray, List.getElem_cons_zero, List.getElem_cons_succ, List.setIfInBounds_toArray, List.set_cons_zero, List.set_cons_succ]
      have BX1 := hide (setRow_heap w11 (w.heap.size + 2) _ p1.cs _ _ BR11.out)
      have BX2 := hide (row_far (W := w11) (g := w.heap.size + 2) p1.cs BR12.out (by omega))
      have BY1 := hide (row_far (g := w.heap.size + 3) p2.cs BX1.out (by omega))
      have BY2 := hide (setRow_heap _ (w.heap.size + 3) _ p2.cs _ _ BX2.out)
      simp only [Pv.cs] at BX1 BX2 BY1 BY2
      refine wpAnyH_ready (rs := [17]) (by kernel_rfl) (by simp) ?_
      refine AllReadyH.cons rfl (fun K hK => ?_) AllReadyH.nil
      rw [if_pos (by rfl)]
      refine wp_store_row 25 _ _ rfl (w.heap.size + 2) _ rfl rfl 25 _ BR11.out sizePage rfl (by simp [Value.oneCell']) ?_
      refine hK.out _ _ (⟨cells5 (row_far _ (blk_keep BP.out B11.out) (by omega)), cells5 (row_far _ (blk_keep BQ.out B11.out) (by omega)), cells5 (row_far _ (blk_keep X15.out B11.out) (by omega))⟩) (fun hHeld => ?_)
      clear hK K
      try simp only [Act.put, List.getElem_toArray, List.getElem_cons_zero, List.getElem_cons_succ, List.setIfInBounds_toArray, List.set_cons_zero, List.set_cons_succ]
      refine wpAnyH_ready (rs := [18]) (by kernel_rfl) (by simp) ?_
      refine AllReadyH.cons rfl (fun K hK => ?_) AllReadyH.nil
      rw [if_pos (by rfl)]
      refine wp_store_row 25 _ _ rfl (w.heap.size + 3) _ rfl rfl 25 _ BX2.out sizePage rfl (by simp [Value.oneCell']) ?_
      refine hK.out _ _ (⟨cells5 (row_far _ (row_far _ (blk_keep BP.out B11.out) (by omega)) (by omega)), cells5 (row_far _ (row_far _ (blk_keep BQ.out B11.out) (by omega)) (by omega)), cells5 (row_far _ (row_far _ (blk_keep X15.out B11.out) (by omega)) (by omega))⟩) (fun hHeld => ?_)
      clear hK K
      try simp only [Act.put, List.getElem_toArray, List.getElem_cons_zero, List.getElem_cons_succ, List.setIfInBounds_toArray, List.set_cons_zero, List.set_cons_succ]
      refine wpAnyH_take (i := 19) (v := ?vap19) rfl (by kernel_rfl) (by kernel_rfl) (by kernel_rfl) (fun _ _ _ h => h) (Or.inl ⟨by rfl, ?hyp19⟩) (by assumption) ?rap19
      case hyp19 => (intro wq hSw; (try dsimp only at hSw); obtain ⟨⟨e0, e1, e2, e3, e4⟩, ⟨g0, g1, g2, g3, g4⟩, h0, h1, h2, h3, h4⟩ := hSw; go_simp <;> with_reducible rfl)
      try simp only [Act.put, List.getElem_toArray, List.getElem_cons_zero, List.getElem_cons_succ, List.setIfInBounds_toArray, List.set_cons_zero, List.set_cons_succ]
      refine wpAnyH_take (i := 20) (v := ?vap20) rfl (by kernel_rfl) (by kernel_rfl) (by kernel_rfl) (fun _ _ _ h => h) (Or.inl ⟨by rfl, ?hyp20⟩) (by assumption) ?rap20
      case hyp20 => (intro wq hSw; (try dsimp only at hSw); obtain ⟨⟨e0, e1, e2, e3, e4⟩, ⟨g0, g1, g2, g3, g4⟩, h0, h1, h2, h3, h4⟩ := hSw; go_simp <;> with_reducible rfl)
      try simp only [Act.put, List.getElem_toArray, List.getElem_cons_zero, List.getElem_cons_succ, List.setIfInBounds_toArray, List.set_cons_zero, List.set_cons_succ]
      refine wpAnyH_done (by kernel_rfl) ?_ _
      clear hHeld
      go_wp2_with fail
      refine bodyPost_ret (v := .tuple #[.agg _, .agg _, _, _]) (results_cells Try.results12 _ _ (w.heap.size + 2) (w.heap.size + 3) 25 25 _ _ (0, 0) (0, 0) _ rfl BY1.out rfl BY2.out Try.underlying25 rfl sizePage sizePage) rfl ?_
      refine ⟨p1, p2, aS, cS, rfl, ?_, P1.out, P2.out⟩
      have hv := HQ.out.pre B3.out
      have h1 := hv.but (but_setRow w11 (w.heap.size + 2) p1.cs) (fun k hk => ⟨_, _, by subst hk; exact BR11.out, by decide, by decide⟩) (below_row _ hv.b (by omega))
      exact h1.but (but_setRow _ (w.heap.size + 3) p2.cs) (fun k hk => ⟨_, _, by subst hk; exact BX2.out, by decide, by decide⟩) (below_row _ h1.b (by omega))
    · rw [if_neg hall] at ZE
      have BR1' := hide (blk_keep BR1.out BX.out)
      have BR2' := hide (blk_keep BR2.out BX.out)
      have B3 := hide (bt B4.out BX.out)
      clear BR1 BR2
      have BR1 := BR1'
      have BR2 := BR2'
      clear BR1' BR2' JO WL WR
      cases hA : A with
      | false =>
        subst hA
        have BX1 := hide (setRow_heap w9 (w.heap.size + 2) _ #[.int .i64 0, .int .i64 0, .slice none 0 0, .slice none 0 0, .int .i64 0] _ _ BR1.out)
        have BX2 := hide (row_far (W := w9) (g := w.heap.size + 2) #[.int .i64 0, .int .i64 0, .slice none 0 0, .slice none 0 0, .int .i64 0] BR2.out (by omega))
        have BY1 := hide (row_far (g := w.heap.size + 3) #[.int .i64 0, .int .i64 0, .slice none 0 0, .slice none 0 0, .int .i64 0] BX1.out (by omega))
        have BY2 := hide (setRow_heap _ (w.heap.size + 3) _ #[.int .i64 0, .int .i64 0, .slice none 0 0, .slice none 0 0, .int .i64 0] _ _ BX2.out)
        go_wp2_with (first | (refine wpList_store_row rfl 25 _ _ rfl (w.heap.size + 2) _ rfl rfl 25 _ BR1.out sizePage rfl (by simp [Value.oneCell']) ?_) | (refine wpList_store_row rfl 25 _ _ rfl (w.heap.size + 3) _ rfl rfl 25 _ BX2.out sizePage rfl (by simp [Value.oneCell']) ?_) | fail)
        refine bodyPost_ret (v := .tuple #[.agg _, .agg _, _, _]) (results_cells Try.results12 _ _ (w.heap.size + 2) (w.heap.size + 3) 25 25 _ _ (0, 0) (0, 0) _ rfl BY1.out rfl BY2.out Try.underlying25 rfl sizePage sizePage) rfl ?_
        rw [ZE.out]; exact ⟨Pv.zero, Pv.zero, none, 0, rfl, Hq.zero (below_row _ (below_row _ B3.out (by omega)) (by omega)), rfl, rfl⟩
      | true =>
        subst hA
        have hM : ¬ mayL m2 m = true := fun h => hall ⟨rfl, h⟩
        clear hall
        by_cases h2 : m2 < 2
        · have d2 : decide ((m2 : Int) < 2) = true := decide_eq_true (by omega)
          have BX1 := hide (setRow_heap w9 (w.heap.size + 2) _ #[.int .i64 0, .int .i64 0, .slice none 0 0, .slice none 0 0, .int .i64 0] _ _ BR1.out)
          have BX2 := hide (row_far (W := w9) (g := w.heap.size + 2) #[.int .i64 0, .int .i64 0, .slice none 0 0, .slice none 0 0, .int .i64 0] BR2.out (by omega))
          have BY1 := hide (row_far (g := w.heap.size + 3) #[.int .i64 0, .int .i64 0, .slice none 0 0, .slice none 0 0, .int .i64 0] BX1.out (by omega))
          have BY2 := hide (setRow_heap _ (w.heap.size + 3) _ #[.int .i64 0, .int .i64 0, .slice none 0 0, .slice none 0 0, .int .i64 0] _ _ BX2.out)
          go_wp2_with (first | (refine wpList_store_row rfl 25 _ _ rfl (w.heap.size + 2) _ rfl rfl 25 _ BR1.out sizePage rfl (by simp [Value.oneCell']) ?_) | (refine wpList_store_row rfl 25 _ _ rfl (w.heap.size + 3) _ rfl rfl 25 _ BX2.out sizePage rfl (by simp [Value.oneCell']) ?_) | fail)
          refine bodyPost_ret (v := .tuple #[.agg _, .agg _, _, _]) (results_cells Try.results12 _ _ (w.heap.size + 2) (w.heap.size + 3) 25 25 _ _ (0, 0) (0, 0) _ rfl BY1.out rfl BY2.out Try.underlying25 rfl sizePage sizePage) rfl ?_
          rw [ZE.out]; exact ⟨Pv.zero, Pv.zero, none, 0, rfl, Hq.zero (below_row _ (below_row _ B3.out (by omega)) (by omega)), rfl, rfl⟩
        · have d2 : decide ((m2 : Int) < 2) = false := decide_eq_false (by omega)
          by_cases h1 : m < 1
          · have d1 : decide ((m : Int) < 1) = true := decide_eq_true (by omega)
            have BX1 := hide (setRow_heap w9 (w.heap.size + 2) _ #[.int .i64 0, .int .i64 0, .slice none 0 0, .slice none 0 0, .int .i64 0] _ _ BR1.out)
            have BX2 := hide (row_far (W := w9) (g := w.heap.size + 2) #[.int .i64 0, .int .i64 0, .slice none 0 0, .slice none 0 0, .int .i64 0] BR2.out (by omega))
            have BY1 := hide (row_far (g := w.heap.size + 3) #[.int .i64 0, .int .i64 0, .slice none 0 0, .slice none 0 0, .int .i64 0] BX1.out (by omega))
            have BY2 := hide (setRow_heap _ (w.heap.size + 3) _ #[.int .i64 0, .int .i64 0, .slice none 0 0, .slice none 0 0, .int .i64 0] _ _ BX2.out)
            go_wp2_with (first | (refine wpList_store_row rfl 25 _ _ rfl (w.heap.size + 2) _ rfl rfl 25 _ BR1.out sizePage rfl (by simp [Value.oneCell']) ?_) | (refine wpList_store_row rfl 25 _ _ rfl (w.heap.size + 3) _ rfl rfl 25 _ BX2.out sizePage rfl (by simp [Value.oneCell']) ?_) | fail)
            refine bodyPost_ret (v := .tuple #[.agg _, .agg _, _, _]) (results_cells Try.results12 _ _ (w.heap.size + 2) (w.heap.size + 3) 25 25 _ _ (0, 0) (0, 0) _ rfl BY1.out rfl BY2.out Try.underlying25 rfl sizePage sizePage) rfl ?_
            rw [ZE.out]; exact ⟨Pv.zero, Pv.zero, none, 0, rfl, Hq.zero (below_row _ (below_row _ B3.out (by omega)) (by omega)), rfl, rfl⟩
          · have d1 : decide ((m : Int) < 1) = false := decide_eq_false (by omega)
            have d8 : decide (8 ≤ (m : Int)) = true := decide_eq_true (by unfold mayL at hM; simp at hM; omega)
            have BX1 := hide (setRow_heap w9 (w.heap.size + 2) _ #[.int .i64 0, .int .i64 0, .slice none 0 0, .slice none 0 0, .int .i64 0] _ _ BR1.out)
            have BX2 := hide (row_far (W := w9) (g := w.heap.size + 2) #[.int .i64 0, .int .i64 0, .slice none 0 0, .slice none 0 0, .int .i64 0] BR2.out (by omega))
            have BY1 := hide (row_far (g := w.heap.size + 3) #[.int .i64 0, .int .i64 0, .slice none 0 0, .slice none 0 0, .int .i64 0] BX1.out (by omega))
            have BY2 := hide (setRow_heap _ (w.heap.size + 3) _ #[.int .i64 0, .int .i64 0, .slice none 0 0, .slice none 0 0, .int .i64 0] _ _ BX2.out)
            go_wp2_with (first | (refine wpList_store_row rfl 25 _ _ rfl (w.heap.size + 2) _ rfl rfl 25 _ BR1.out sizePage rfl (by simp [Value.oneCell']) ?_) | (refine wpList_store_row rfl 25 _ _ rfl (w.heap.size + 3) _ rfl rfl 25 _ BX2.out sizePage rfl (by simp [Value.oneCell']) ?_) | fail)
            refine bodyPost_ret (v := .tuple #[.agg _, .agg _, _, _]) (results_cells Try.results12 _ _ (w.heap.size + 2) (w.heap.size + 3) 25 25 _ _ (0, 0) (0, 0) _ rfl BY1.out rfl BY2.out Try.underlying25 rfl sizePage sizePage) rfl ?_
            rw [ZE.out]; exact ⟨Pv.zero, Pv.zero, none, 0, rfl, Hq.zero (below_row _ (below_row _ B3.out (by omega)) (by omega)), rfl, rfl⟩

end Go.Proofs.Ytoachodngjlpaaa
