import Derived.Test.YtoachodngjlpaaaDI
namespace Go.Proofs.Ytoachodngjlpaaa
set_option linter.unusedVariables false
set_option linter.unusedSimpArgs false
open Go.RowKit
theorem isMeant_any (w : World) (p : Pv) : Calls Try.prog 26 #[p.vl] w fun e w' => e = .returned (.bool (mnt p.kind)) ∧ Below w.heap.size w w' := by
  obtain ⟨kind, level, aI, cI, L, aD, cD, data, next⟩ := p
  unfold Pv.vl
  simp only [Pv.cs]
  have A0 := hide fun (cs : Array Value) => al w (.cells cs 25)
  generalize L.length = n at *
  by_cases h1 : kind = 1
  · subst h1
    go_enter Try.func26, Try.ntmps26
    go_wp2
    go_ret
    exact ⟨rfl, A0.out _⟩
  · by_cases h2 : kind = 2
    · subst h2
      go_enter Try.func26, Try.ntmps26
      go_wp2
      go_ret
      exact ⟨rfl, A0.out _⟩
    · have hm : mnt kind = false := by simp [mnt, h1, h2]
      rw [hm]
      clear hm
      go_enter Try.func26, Try.ntmps26
      go_wp2
      go_ret
      exact ⟨by simp [h1, h2], A0.out _⟩
set_option maxHeartbeats 1600000 in
theorem areAlike_any (w : World) (p q : Pv) : Calls Try.prog 28 #[p.vl, q.vl] w fun e w' => e = .returned (.bool (alk p.pg q.pg)) ∧ Below w.heap.size w w' := by
  have IM := hide fun (W : World) => isMeant_any W p
  have EA : Hid (alk p.pg q.pg = (mnt p.kind && decide (p.kind = q.kind) && decide (p.level = q.level))) := rfl
  rw [EA.out]
  clear EA
  obtain ⟨kind, level, aI, cI, L, aD, cD, data, next⟩ := p
  obtain ⟨kind2, level2, aI2, cI2, L2, aD2, cD2, data2, next2⟩ := q
  unfold Pv.vl at *
  simp only [Pv.cs] at *
  have A0 := hide fun (cs cs2 : Array Value) => two_blocks w (.cells cs 25) (.cells cs2 25) (Below.refl _ _)
  generalize L.length = n at *
  generalize L2.length = n2 at *
  cases hm : mnt kind with
  | false =>
    rw [hm] at IM
    clear hm
    go_enter Try.func28, Try.ntmps28
    go_wp2_with (go_at_call 26; refine (IM.out _).mono ?_; rintro _ w2 ⟨rfl, h2⟩)
    go_ret
    exact ⟨by simp, bt (A0.out _ _).2.2.1 h2⟩
  | true =>
    rw [hm] at IM
    clear hm
    have K := hide fun (W : World) (hb : Below ((w.alloc (.cells #[.int .i64 kind, .int .i64 level, .slice aI n cI, .slice aD data.length cD, .int .i64 next] 25)).alloc (.cells #[.int .i64 kind2, .int .i64 level2, .slice aI2 n2 cI2, .slice aD2 data2.length cD2, .int .i64 next2] 25)).heap.size ((w.alloc (.cells #[.int .i64 kind, .int .i64 level, .slice aI n cI, .slice aD data.length cD, .int .i64 next] 25)).alloc (.cells #[.int .i64 kind2, .int .i64 level2, .slice aI2 n2 cI2, .slice aD2 data2.length cD2, .int .i64 next2] 25)) W) => And.intro (cells5 (blk_keep (A0.out _ _).1 hb)) (And.intro (cells5 (blk_keep (A0.out _ _).2.1 hb)) (bt (A0.out _ _).2.2.1 hb))
    by_cases h1 : kind = kind2
    · subst h1
      by_cases h3 : level = level2
      · subst h3
        go_enter Try.func28, Try.ntmps28
        go_wp2_with (go_at_call 26; refine (IM.out _).mono ?_; rintro _ w2 ⟨rfl, h2⟩; obtain ⟨⟨x0, x1, x2, x3, x4⟩, ⟨y0, y1, y2, y3, y4⟩, b2⟩ := K.out _ h2; clear h2)
        go_ret
        exact ⟨by simp, b2⟩
      · go_enter Try.func28, Try.ntmps28
        go_wp2_with (go_at_call 26; refine (IM.out _).mono ?_; rintro _ w2 ⟨rfl, h2⟩; obtain ⟨⟨x0, x1, x2, x3, x4⟩, ⟨y0, y1, y2, y3, y4⟩, b2⟩ := K.out _ h2; clear h2)
        go_ret
        exact ⟨by simp [h3], b2⟩
    · go_enter Try.func28, Try.ntmps28
      go_wp2_with (go_at_call 26; refine (IM.out _).mono ?_; rintro _ w2 ⟨rfl, h2⟩; obtain ⟨⟨x0, x1, x2, x3, x4⟩, ⟨y0, y1, y2, y3, y4⟩, b2⟩ := K.out _ h2; clear h2)
      go_ret
      exact ⟨by simp [h1], b2⟩
/-! ### joined -/
theorem four_blocks (w : World) (o p q r : Obj) : ((((w.alloc o).alloc p).alloc q).alloc r).heap[w.heap.size]? = some o ∧ ((((w.alloc o).alloc p).alloc q).alloc r).heap[w.heap.size + 1]? = some p ∧ ((((w.alloc o).alloc p).alloc q).alloc r).heap[w.heap.size + 2]? = some q ∧ ((((w.alloc o).alloc p).alloc q).alloc r).heap[w.heap.size + 3]? = some r ∧ Below w.heap.size w ((((w.alloc o).alloc p).alloc q).alloc r) := by
  have h := three_blocks w o p q
  refine ⟨blk_keep h.1 (al _ r), blk_keep h.2.1 (al _ r), blk_keep h.2.2.1 (al _ r), ?_, bt h.2.2.2 (al _ r)⟩
  have k := heap_alloc_new (((w.alloc o).alloc p).alloc q) r
  rw [size_alloc, size_alloc, size_alloc] at k
  exact k
theorem Ii.keyed {w : World} {x : Iv} {a : Option Addr} {c : Nat} {s : List Nat} (h : Ii w x) (hB : Bs w a s) (hc : s.length ≤ c) : Ii w { x with aK := a, cK := c, key := s } := ⟨hB, hc, h.bv, h.cv, h.nc, h.ns⟩
theorem jnd_eq (l r : Pv) (s : List Nat) (x : Iv) (h : x.it = if r.kind = 2 then ((r.items.getD 0 Iv.zero).it).keyed s else (r.items.getD 0 Iv.zero).it) : jnd l.pg r.pg s = (l.items ++ x :: r.items.drop 1).map Iv.it := by
  unfold jnd
  rw [show r.pg.kind = r.kind from rfl, Pv.at, List.map_append, List.map_cons, h, List.map_drop]
  rfl
set_option maxHeartbeats 8000000 in
set_option maxRecDepth 8000 in
theorem joined_any (w : World) (l r : Pv) (aS : Option Addr) (cs : Nat) (s : List Nat) (hl : Pi w l) (hr : Pi w r) (h1 : 0 < r.items.length) (hB : Bs w aS s) (hc : s.length ≤ cs) (hsl : s.length ≤ 140737488355264) (hd : l.data.length ≤ 140737488355264) (sl : Sml l.items) (sr : Sml r.items) (hn : l.items.length + r.items.length ≤ 2199023255520) :
    Calls Try.prog 29 #[l.vl, r.vl, .slice aS s.length cs] w fun e w' => ∃ q : Pv, e = .returned q.vl ∧ Pn w w' q ∧ q.pg = l.pg.wi (jnd l.pg r.pg s) ∧ Below w.heap.size w w' := by
  have WI := hide fun (W : World) (hb : Below w.heap.size w W) (b n : Nat) (ps : List Pc) (hn : n = ps.length) (hnn : n ≤ 8) (hx : Px W b ps) => with_any W l b ps n hn hnn (hl.bd.keep hb) ⟨hl.nk, hl.nl, hl.nn⟩ hd hx
  have FR := hide fun (W : World) (hb : Below w.heap.size w W) => from_any W r 1 (hr.keep hb) h1
  have JE := hide fun (x : Iv) (h : x.it = if r.kind = 2 then ((r.items.getD 0 Iv.zero).it).keyed s else (r.items.getD 0 Iv.zero).it) => jnd_eq l r s x h
  have SL := hide sl
  have SR := hide sr
  have IR := hide (hr.it.1 _ (getD_memR h1))
  have JL := hide hl.it
  have SH := hide (sr _ (getD_memR h1))
  have SX := hide hsl
  have BS := hide hB
  have NN := hide hn
  obtain ⟨bR, oR, eR, rg⟩ := hr.it.at h1
  obtain ⟨kind, level, aI, cI, L, aD, cD, data, next⟩ := l
  obtain ⟨kind2, level2, aI2, cI2, L2, aD2, cD2, data2, next2⟩ := r
  simp only at eR
  subst eR
  have RG := hide fun (W : World) (hb : Below w.heap.size w W) => (show W.cell? ⟨bR, oR, none⟩ = _ ∧ W.cell? ⟨bR, oR + 1, none⟩ = _ ∧ W.cell? ⟨bR, oR + 2, none⟩ = _ ∧ W.cell? ⟨bR, oR + 3, none⟩ = _ from by
    have k := range4 (range_below rg hb)
    rw [Nat.zero_mul, Nat.add_zero] at k
    exact k)
  unfold Pv.vl at *
  simp only [Pv.cs] at *
  have hL2 : L2.length ≤ 2199023255520 := hr.it.2.1
  obtain ⟨m, hm⟩ : ∃ m, L.length = m := ⟨_, rfl⟩
  have HM := hide hm
  obtain ⟨m2, hm2⟩ : ∃ m2, L2.length = m2 := ⟨_, rfl⟩
  have HM2 := hide hm2
  simp only [hm, hm2] at WI FR h1 hL2 ⊢
  clear hl hr hn hd sl sr hsl rg hB hm hm2
  have hbR := block_lt_of_cell (RG.out w (Below.refl _ _)).1
  have hh := RG.out (((w.alloc (.cells #[.int .i64 kind, .int .i64 level, .slice aI m cI, .slice aD data.length cD, .int .i64 next] 25)).alloc (.cells #[.int .i64 kind2, .int .i64 level2, .slice (some ⟨bR, oR, none⟩) m2 cI2, .slice aD2 data2.length cD2, .int .i64 next2] 25)).alloc (.cells #[.int .i64 0, .int .i64 0, .slice none 0 0, .slice none 0 0, .int .i64 0] 25)) (three_blocks w _ _ _).2.2.2
  have h1I : (0 : Int) < (m2 : Int) := by omega
  generalize hv : L2.getD 0 Iv.zero = v at *
  obtain ⟨aK, cK, key, aV, cV, val, child, size⟩ := v
  try simp only at hh
  obtain ⟨k0, k1, k2, k3⟩ := hh
  clear RG
  by_cases hk : kind2 = 2
  · subst hk
    have IX : Hid (Ii w ⟨aS, cs, s, aV, cV, val, child, size⟩) := IR.out.keyed BS.out hc
    have SX2 : Hid (Sml [(⟨aS, cs, s, aV, cV, val, child, size⟩ : Iv)]) := Sml.one ⟨SX.out, SH.out.2⟩
    have OX := hide fun (W : World) (hb : Below w.heap.size w W) => one_any W ⟨aS, cs, s, aV, cV, val, child, size⟩ (IX.out.keep hb)
    have JX := hide (JE.out ⟨aS, cs, s, aV, cV, val, child, size⟩ rfl)
    have U4 := hide (four_blocks w (.cells #[.int .i64 kind, .int .i64 level, .slice aI m cI, .slice aD data.length cD, .int .i64 next] 25) (.cells #[.int .i64 2, .int .i64 level2, .slice (some ⟨bR, oR, none⟩) m2 cI2, .slice aD2 data2.length cD2, .int .i64 next2] 25) (.cells #[.int .i64 0, .int .i64 0, .slice none 0 0, .slice none 0 0, .int .i64 0] 25) (.cells #[.slice aS s.length cs, .slice aV val.length cV, .int .i64 child, .int .i64 size] 29))
    unfold Iv.vl at OX
    simp only [Iv.cs] at OX
    clear JE IX
    go_enter Try.func29, Try.ntmps29
    go_wp2_with fail
    have BP := hide U4.out.1
    have BQ := hide U4.out.2.1
    have BR := hide U4.out.2.2.1
    have BI := hide U4.out.2.2.2.1
    have B3 := hide U4.out.2.2.2.2
    clear U4 k0 k1 k2 k3
    generalize ((((w.alloc (.cells #[.int .i64 kind, .int .i64 level, .slice aI m cI, .slice aD data.length cD, .int .i64 next] 25)).alloc (.cells #[.int .i64 2, .int .i64 level2, .slice (some ⟨bR, oR, none⟩) m2 cI2, .slice aD2 data2.length cD2, .int .i64 next2] 25)).alloc (.cells #[.int .i64 0, .int .i64 0, .slice none 0 0, .slice none 0 0, .int .i64 0] 25)).alloc (.cells #[.slice aS s.length cs, .slice aV val.length cV, .int .i64 child, .int .i64 size] 29)) = w3 at *
    have SS := hide fun (W : World) (hb : Below w3.heap.size w3 W) => And.intro (cells5 (blk_keep BP.out hb)) (And.intro (cells5 (blk_keep BQ.out hb)) (cells4 (blk_keep BI.out hb)))
    have D3 := hide (dr2 w3)
    refine wp_region_held_drew (S := fun W => (W.cell? ⟨w.heap.size, 0, none⟩ = some (.int .i64 kind) ∧ W.cell? ⟨w.heap.size, 1, none⟩ = some (.int .i64 level) ∧ W.cell? ⟨w.heap.size, 2, none⟩ = some (.slice aI m cI) ∧ W.cell? ⟨w.heap.size, 3, none⟩ = some (.slice aD data.length cD) ∧ W.cell? ⟨w.heap.size, 4, none⟩ = some (.int .i64 next)) ∧ (W.cell? ⟨w.heap.size + 1, 0, none⟩ = some (.int .i64 2) ∧ W.cell? ⟨w.heap.size + 1, 1, none⟩ = some (.int .i64 level2) ∧ W.cell? ⟨w.heap.size + 1, 2, none⟩ = some (.slice (some ⟨bR, oR, none⟩) m2 cI2) ∧ W.cell? ⟨w.heap.size + 1, 3, none⟩ = some (.slice aD2 data2.length cD2) ∧ W.cell? ⟨w.heap.size + 1, 4, none⟩ = some (.int .i64 next2)) ∧ (W.cell? ⟨w.heap.size + 3, 0, none⟩ = some (.slice aS s.length cs) ∧ W.cell? ⟨w.heap.size + 3, 1, none⟩ = some (.slice aV val.length cV) ∧ W.cell? ⟨w.heap.size + 3, 2, none⟩ = some (.int .i64 child) ∧ W.cell? ⟨w.heap.size + 3, 3, none⟩ = some (.int .i64 size))) (by kernel_rfl) (SS.out _ D3.out) (fun hHeld => ?_)
    refine wpAnyH_take (i := 0) (v := ?vaha0) rfl (by kernel_rfl) (by kernel_rfl) (by kernel_rfl) (fun _ _ _ h => h) (Or.inl ⟨by rfl, ?hyha0⟩) (by assumption) ?raha0
    case hyha0 => (intro wq hSw; (try dsimp only at hSw); obtain ⟨⟨e0, e1, e2, e3, e4⟩, ⟨g0, g1, g2, g3, g4⟩, f0, f1, f2, f3⟩ := hSw; go_simp <;> with_reducible rfl)
    try simp only [Act.put, List.getElem_toArray, List.getElem_cons_zero, List.setIfInBounds_toArray, List.set_cons_zero, List.set_cons_succ]
    refine wpAnyH_take (i := 1) (v := ?vaha1) rfl (by kernel_rfl) (by kernel_rfl) (by kernel_rfl) (fun _ _ _ h => h) (Or.inl ⟨by rfl, ?hyha1⟩) (by assumption) ?raha1
    case hyha1 => (intro wq hSw; (try dsimp only at hSw); obtain ⟨⟨e0, e1, e2, e3, e4⟩, ⟨g0, g1, g2, g3, g4⟩, f0, f1, f2, f3⟩ := hSw; go_simp <;> with_reducible rfl)
    try simp only [Act.put, List.getElem_toArray, List.getElem_cons_zero, List.getElem_cons_succ, List.setIfInBounds_toArray, List.set_cons_zero, List.set_cons_succ]
    refine wpAnyH_take (i := 2) (v := ?vaha2) rfl (by kernel_rfl) (by kernel_rfl) (by kernel_rfl) (fun _ _ _ h => h) (Or.inl ⟨by rfl, ?hyha2⟩) (by assumption) ?raha2
    case hyha2 => (intro wq hSw; (try dsimp only at hSw); obtain ⟨⟨e0, e1, e2, e3, e4⟩, ⟨g0, g1, g2, g3, g4⟩, f0, f1, f2, f3⟩ := hSw; go_simp <;> with_reducible rfl)
    try simp only [Act.put, List.getElem_toArray, List.getElem_cons_zero, List.getElem_cons_succ, List.setIfInBounds_toArray, List.set_cons_zero, List.set_cons_succ]
    refine wpAnyH_take (i := 3) (v := ?vaha3) rfl (by kernel_rfl) (by kernel_rfl) (by kernel_rfl) (fun _ _ _ h => h) (Or.inl ⟨by rfl, ?hyha3⟩) (by assumption) ?raha3
    case hyha3 => (intro wq hSw; (try dsimp only at hSw); obtain ⟨⟨e0, e1, e2, e3, e4⟩, ⟨g0, g1, g2, g3, g4⟩, f0, f1, f2, f3⟩ := hSw; go_simp <;> with_reducible rfl)
    try simp only [Act.put, List.getElem_toArray, List.getElem_cons_zero, List.getElem_cons_succ, List.setIfInBounds_toArray, List.set_cons_zero, List.set_cons_succ]
    refine wpAnyH_take (i := 5) (v := ?vaha5) rfl (by kernel_rfl) (by kernel_rfl) (by kernel_rfl) (fun _ _ _ h => h) (Or.inl ⟨by rfl, ?hyha5⟩) (by assumption) ?raha5
    case hyha5 => (intro wq hSw; (try dsimp only at hSw); obtain ⟨⟨e0, e1, e2, e3, e4⟩, ⟨g0, g1, g2, g3, g4⟩, f0, f1, f2, f3⟩ := hSw; go_simp <;> with_reducible rfl)
    try simp only [Act.put, List.getElem_toArray, List.getElem_cons_zero, List.getElem_cons_succ, List.setIfInBounds_toArray, List.set_cons_zero, List.set_cons_succ]
    refine wpAnyH_ready (rs := [4]) (by kernel_rfl) (by simp) ?_
    refine AllReadyH.cons rfl (fun K hK => ?_) AllReadyH.nil
    go_simp
    refine (OX.out _ (bt B3.out D3.out)).mono ?_
    rintro _ w6 ⟨g2, rfl, j2, b2⟩
    have J2 := hide j2
    have B6 := hide (bt D3.out b2)
    clear j2 b2
    go_wp2_with fail
    refine hK.out _ _ (SS.out _ B6.out) (fun hHeld => ?_)
    clear hK K
    try simp only [Act.put, List.getElem_toArray, List.getElem_cons_zero, List.getElem_cons_succ, List.setIfInBounds_toArray, List.set_cons_zero, List.set_cons_succ]
    refine wpAnyH_ready (rs := [6]) (by kernel_rfl) (by simp) ?_
    refine AllReadyH.cons rfl (fun K hK => ?_) AllReadyH.nil
    go_simp
    refine (FR.out _ (bt B3.out B6.out)).mono ?_
    rintro _ w7 ⟨a3, c3, rfl, j3, b3⟩
    have J3 := hide j3
    have B67 := hide b3
    have B7 := hide (bt B6.out b3)
    clear j3 b3
    go_wp2_with fail
    refine hK.out _ _ (SS.out _ B7.out) (fun hHeld => ?_)
    clear hK K
    try simp only [Act.put, List.getElem_toArray, List.getElem_cons_zero, List.getElem_cons_succ, List.setIfInBounds_toArray, List.set_cons_zero, List.set_cons_succ]
    have PX := hide (Px.three (n1 := m) (c1 := cI) (n2 := 1) (c2 := 1) (n3 := m2 - 1) (c3 := c3) (JL.out.keep (bt B3.out B7.out)) HM.out.symm SL.out (J2.out.keep B67.out) rfl SX2.out J3.out (by rw [List.length_drop, HM2.out]) (SR.out.drop 1) (by rw [List.length_drop, HM.out, HM2.out]; have := NN.out; simp only [HM.out, HM2.out] at this; simp only [List.length_cons, List.length_nil]; omega))
    refine wpAnyH_ready (rs := [7]) (by kernel_rfl) (by simp) ?_
    refine AllReadyH.cons rfl (fun K hK => ?_) AllReadyH.nil
    go_simp
    have B8 := hide (bt B7.out (al w7 (.cells #[.slice aI m cI, .slice (some ⟨g2, 0, none⟩) 1 1, .slice a3 (m2 - 1) c3] 22)))
    refine hK.out _ _ (SS.out _ B8.out) (fun hHeld => ?_)
    clear hK K
    try simp only [Act.put, List.getElem_toArray, List.getElem_cons_zero, List.getElem_cons_succ, List.setIfInBounds_toArray, List.set_cons_zero, List.set_cons_succ]
    refine wpAnyH_ready (rs := [8]) (by kernel_rfl) (by simp) ?_
    refine AllReadyH.cons rfl (fun K hK => ?_) AllReadyH.nil
    go_simp
    refine (WI.out _ (bt B3.out B8.out) _ 3 _ rfl (by decide) PX.out).mono ?_
    rintro _ w9 ⟨q, rfl, hq9, hg9, b9⟩
    have Q9 := hide (hq9.pre (bt B3.out B8.out).size)
    have G9 := hide hg9
    have B9 := hide (bt B8.out b9)
    clear hq9 hg9 b9
    go_wp2_with fail
    refine hK.out _ _ (SS.out _ B9.out) (fun hHeld => ?_)
    clear hK K
    try simp only [Act.put, List.getElem_toArray, List.getElem_cons_zero, List.getElem_cons_succ, List.setIfInBounds_toArray, List.set_cons_zero, List.set_cons_succ]
    have BR9 := hide (blk_keep BR.out B9.out)
    refine wpAnyH_ready (rs := [9]) (by kernel_rfl) (by simp) ?_
    refine AllReadyH.cons rfl (fun K hK => ?_) AllReadyH.nil
    rw [if_pos (by rfl)]
    refine wp_store_row 25 _ _ rfl (w.heap.size + 2) _ rfl rfl 25 _ BR9.out sizePage rfl (by simp [Value.oneCell']) ?_
    refine hK.out _ _ ⟨cells5 (row_far _ (blk_keep BP.out B9.out) (by omega)), cells5 (row_far _ (blk_keep BQ.out B9.out) (by omega)), cells4 (row_far _ (blk_keep BI.out B9.out) (by omega))⟩ (fun hHeld => ?_)
    clear hK K
    try simp only [Act.put, List.getElem_toArray, List.getElem_cons_zero, List.getElem_cons_succ, List.setIfInBounds_toArray, List.set_cons_zero, List.set_cons_succ]
    refine wpAnyH_done (by kernel_rfl) ?_ _
    clear hHeld
    go_wp2_with fail
    refine bodyPost_ret (v := .agg _) (results_cell_row Try.results29 _ _ (w.heap.size + 2) 25 _ (0, 0) _ rfl (setRow_heap _ _ _ _ _ _ BR9.out) Try.underlying25 rfl sizePage) rfl ?_
    exact ⟨q, rfl, Q9.out.row BR9.out (by decide) (by decide) _, by rw [G9.out, JX.out]; simp [flt, Pg.wi], below_row _ (bt B3.out B9.out) (by omega)⟩
  · have hkf : (kind2 == 2) = false := by simp [hk]
    have IX : Hid (Ii w ⟨aK, cK, key, aV, cV, val, child, size⟩) := IR.out
    have SX2 : Hid (Sml [(⟨aK, cK, key, aV, cV, val, child, size⟩ : Iv)]) := Sml.one SH.out
    have OX := hide fun (W : World) (hb : Below w.heap.size w W) => one_any W ⟨aK, cK, key, aV, cV, val, child, size⟩ (IX.out.keep hb)
    have JX := hide (JE.out ⟨aK, cK, key, aV, cV, val, child, size⟩ (by rw [if_neg hk]))
    have U4 := hide (four_blocks w (.cells #[.int .i64 kind, .int .i64 level, .slice aI m cI, .slice aD data.length cD, .int .i64 next] 25) (.cells #[.int .i64 kind2, .int .i64 level2, .slice (some ⟨bR, oR, none⟩) m2 cI2, .slice aD2 data2.length cD2, .int .i64 next2] 25) (.cells #[.int .i64 0, .int .i64 0, .slice none 0 0, .slice none 0 0, .int .i64 0] 25) (.cells #[.slice aK key.length cK, .slice aV val.length cV, .int .i64 child, .int .i64 size] 29))
    unfold Iv.vl at OX
    simp only [Iv.cs] at OX
    clear JE IX
    go_enter Try.func29, Try.ntmps29
    go_wp2_with fail
    have BP := hide U4.out.1
    have BQ := hide U4.out.2.1
    have BR := hide U4.out.2.2.1
    have BI := hide U4.out.2.2.2.1
    have B3 := hide U4.out.2.2.2.2
    clear U4 k0 k1 k2 k3
    generalize ((((w.alloc (.cells #[.int .i64 kind, .int .i64 level, .slice aI m cI, .slice aD data.length cD, .int .i64 next] 25)).alloc (.cells #[.int .i64 kind2, .int .i64 level2, .slice (some ⟨bR, oR, none⟩) m2 cI2, .slice aD2 data2.length cD2, .int .i64 next2] 25)).alloc (.cells #[.int .i64 0, .int .i64 0, .slice none 0 0, .slice none 0 0, .int .i64 0] 25)).alloc (.cells #[.slice aK key.length cK, .slice aV val.length cV, .int .i64 child, .int .i64 size] 29)) = w3 at *
    have SS := hide fun (W : World) (hb : Below w3.heap.size w3 W) => And.intro (cells5 (blk_keep BP.out hb)) (And.intro (cells5 (blk_keep BQ.out hb)) (cells4 (blk_keep BI.out hb)))
    have D3 := hide (dr2 w3)
    refine wp_region_held_drew (S := fun W => (W.cell? ⟨w.heap.size, 0, none⟩ = some (.int .i64 kind) ∧ W.cell? ⟨w.heap.size, 1, none⟩ = some (.int .i64 level) ∧ W.cell? ⟨w.heap.size, 2, none⟩ = some (.slice aI m cI) ∧ W.cell? ⟨w.heap.size, 3, none⟩ = some (.slice aD data.length cD) ∧ W.cell? ⟨w.heap.size, 4, none⟩ = some (.int .i64 next)) ∧ (W.cell? ⟨w.heap.size + 1, 0, none⟩ = some (.int .i64 kind2) ∧ W.cell? ⟨w.heap.size + 1, 1, none⟩ = some (.int .i64 level2) ∧ W.cell? ⟨w.heap.size + 1, 2, none⟩ = some (.slice (some ⟨bR, oR, none⟩) m2 cI2) ∧ W.cell? ⟨w.heap.size + 1, 3, none⟩ = some (.slice aD2 data2.length cD2) ∧ W.cell? ⟨w.heap.size + 1, 4, none⟩ = some (.int .i64 next2)) ∧ (W.cell? ⟨w.heap.size + 3, 0, none⟩ = some (.slice aK key.length cK) ∧ W.cell? ⟨w.heap.size + 3, 1, none⟩ = some (.slice aV val.length cV) ∧ W.cell? ⟨w.heap.size + 3, 2, none⟩ = some (.int .i64 child) ∧ W.cell? ⟨w.heap.size + 3, 3, none⟩ = some (.int .i64 size))) (by kernel_rfl) (SS.out _ D3.out) (fun hHeld => ?_)
    refine wpAnyH_take (i := 0) (v := ?vahb0) rfl (by kernel_rfl) (by kernel_rfl) (by kernel_rfl) (fun _ _ _ h => h) (Or.inl ⟨by rfl, ?hyhb0⟩) (by assumption) ?rahb0
    case hyhb0 => (intro wq hSw; (try dsimp only at hSw); obtain ⟨⟨e0, e1, e2, e3, e4⟩, ⟨g0, g1, g2, g3, g4⟩, f0, f1, f2, f3⟩ := hSw; go_simp <;> with_reducible rfl)
    try simp only [Act.put, List.getElem_toArray, List.getElem_cons_zero, List.setIfInBounds_toArray, List.set_cons_zero, List.set_cons_succ]
    refine wpAnyH_take (i := 1) (v := ?vahb1) rfl (by kernel_rfl) (by kernel_rfl) (by kernel_rfl) (fun _ _ _ h => h) (Or.inl ⟨by rfl, ?hyhb1⟩) (by assumption) ?rahb1
    case hyhb1 => (intro wq hSw; (try dsimp only at hSw); obtain ⟨⟨e0, e1, e2, e3, e4⟩, ⟨g0, g1, g2, g3, g4⟩, f0, f1, f2, f3⟩ := hSw; go_simp <;> with_reducible rfl)
    try simp only [Act.put, List.getElem_toArray, List.getElem_cons_zero, List.getElem_cons_succ, List.setIfInBounds_toArray, List.set_cons_zero, List.set_cons_succ]
    refine wpAnyH_take (i := 2) (v := ?vahb2) rfl (by kernel_rfl) (by kernel_rfl) (by kernel_rfl) (fun _ _ _ h => h) (Or.inl ⟨by rfl, ?hyhb2⟩) (by assumption) ?rahb2
    case hyhb2 => (intro wq hSw; (try dsimp only at hSw); obtain ⟨⟨e0, e1, e2, e3, e4⟩, ⟨g0, g1, g2, g3, g4⟩, f0, f1, f2, f3⟩ := hSw; go_simp <;> with_reducible rfl)
    try simp only [Act.put, List.getElem_toArray, List.getElem_cons_zero, List.getElem_cons_succ, List.setIfInBounds_toArray, List.set_cons_zero, List.set_cons_succ]
    refine wpAnyH_take (i := 3) (v := ?vahb3) rfl (by kernel_rfl) (by kernel_rfl) (by kernel_rfl) (fun _ _ _ h => h) (Or.inl ⟨by rfl, ?hyhb3⟩) (by assumption) ?rahb3
    case hyhb3 => (intro wq hSw; (try dsimp only at hSw); obtain ⟨⟨e0, e1, e2, e3, e4⟩, ⟨g0, g1, g2, g3, g4⟩, f0, f1, f2, f3⟩ := hSw; go_simp <;> with_reducible rfl)
    try simp only [Act.put, List.getElem_toArray, List.getElem_cons_zero, List.getElem_cons_succ, List.setIfInBounds_toArray, List.set_cons_zero, List.set_cons_succ]
    refine wpAnyH_take (i := 5) (v := ?vahb5) rfl (by kernel_rfl) (by kernel_rfl) (by kernel_rfl) (fun _ _ _ h => h) (Or.inl ⟨by rfl, ?hyhb5⟩) (by assumption) ?rahb5
    case hyhb5 => (intro wq hSw; (try dsimp only at hSw); obtain ⟨⟨e0, e1, e2, e3, e4⟩, ⟨g0, g1, g2, g3, g4⟩, f0, f1, f2, f3⟩ := hSw; go_simp <;> with_reducible rfl)
    try simp only [Act.put, List.getElem_toArray, List.getElem_cons_zero, List.getElem_cons_succ, List.setIfInBounds_toArray, List.set_cons_zero, List.set_cons_succ]
    refine wpAnyH_ready (rs := [4]) (by kernel_rfl) (by simp) ?_
    refine AllReadyH.cons rfl (fun K hK => ?_) AllReadyH.nil
    go_simp
    refine (OX.out _ (bt B3.out D3.out)).mono ?_
    rintro _ w6 ⟨g2, rfl, j2, b2⟩
    have J2 := hide j2
    have B6 := hide (bt D3.out b2)
    clear j2 b2
    go_wp2_with fail
    refine hK.out _ _ (SS.out _ B6.out) (fun hHeld => ?_)
    clear hK K
    try simp only [Act.put, List.getElem_toArray, List.getElem_cons_zero, List.getElem_cons_succ, List.setIfInBounds_toArray, List.set_cons_zero, List.set_cons_succ]
    refine wpAnyH_ready (rs := [6]) (by kernel_rfl) (by simp) ?_
    refine AllReadyH.cons rfl (fun K hK => ?_) AllReadyH.nil
    go_simp
    refine (FR.out _ (bt B3.out B6.out)).mono ?_
    rintro _ w7 ⟨a3, c3, rfl, j3, b3⟩
    have J3 := hide j3
    have B67 := hide b3
    have B7 := hide (bt B6.out b3)
    clear j3 b3
    go_wp2_with fail
    refine hK.out _ _ (SS.out _ B7.out) (fun hHeld => ?_)
    clear hK K
    try simp only [Act.put, List.getElem_toArray, List.getElem_cons_zero, List.getElem_cons_succ, List.setIfInBounds_toArray, List.set_cons_zero, List.set_cons_succ]
    have PX := hide (Px.three (n1 := m) (c1 := cI) (n2 := 1) (c2 := 1) (n3 := m2 - 1) (c3 := c3) (JL.out.keep (bt B3.out B7.out)) HM.out.symm SL.out (J2.out.keep B67.out) rfl SX2.out J3.out (by rw [List.length_drop, HM2.out]) (SR.out.drop 1) (by rw [List.length_drop, HM.out, HM2.out]; have := NN.out; simp only [HM.out, HM2.out] at this; simp only [List.length_cons, List.length_nil]; omega))
    refine wpAnyH_ready (rs := [7]) (by kernel_rfl) (by simp) ?_
    refine AllReadyH.cons rfl (fun K hK => ?_) AllReadyH.nil
    go_simp
    have B8 := hide (bt B7.out (al w7 (.cells #[.slice aI m cI, .slice (some ⟨g2, 0, none⟩) 1 1, .slice a3 (m2 - 1) c3] 22)))
    refine hK.out _ _ (SS.out _ B8.out) (fun hHeld => ?_)
    clear hK K
    try simp only [Act.put, List.getElem_toArray, List.getElem_cons_zero, List.getElem_cons_succ, List.setIfInBounds_toArray, List.set_cons_zero, List.set_cons_succ]
    refine wpAnyH_ready (rs := [8]) (by kernel_rfl) (by simp) ?_
    refine AllReadyH.cons rfl (fun K hK => ?_) AllReadyH.nil
    go_simp
    refine (WI.out _ (bt B3.out B8.out) _ 3 _ rfl (by decide) PX.out).mono ?_
    rintro _ w9 ⟨q, rfl, hq9, hg9, b9⟩
    have Q9 := hide (hq9.pre (bt B3.out B8.out).size)
    have G9 := hide hg9
    have B9 := hide (bt B8.out b9)
    clear hq9 hg9 b9
    go_wp2_with fail
    refine hK.out _ _ (SS.out _ B9.out) (fun hHeld => ?_)
    clear hK K
    try simp only [Act.put, List.getElem_toArray, List.getElem_cons_zero, List.getElem_cons_succ, List.setIfInBounds_toArray, List.set_cons_zero, List.set_cons_succ]
    have BR9 := hide (blk_keep BR.out B9.out)
    refine wpAnyH_ready (rs := [9]) (by kernel_rfl) (by simp) ?_
    refine AllReadyH.cons rfl (fun K hK => ?_) AllReadyH.nil
    rw [if_pos (by rfl)]
    refine wp_store_row 25 _ _ rfl (w.heap.size + 2) _ rfl rfl 25 _ BR9.out sizePage rfl (by simp [Value.oneCell']) ?_
    refine hK.out _ _ ⟨cells5 (row_far _ (blk_keep BP.out B9.out) (by omega)), cells5 (row_far _ (blk_keep BQ.out B9.out) (by omega)), cells4 (row_far _ (blk_keep BI.out B9.out) (by omega))⟩ (fun hHeld => ?_)
    clear hK K
    try simp only [Act.put, List.getElem_toArray, List.getElem_cons_zero, List.getElem_cons_succ, List.setIfInBounds_toArray, List.set_cons_zero, List.set_cons_succ]
    refine wpAnyH_done (by kernel_rfl) ?_ _
    clear hHeld
    go_wp2_with fail
    refine bodyPost_ret (v := .agg _) (results_cell_row Try.results29 _ _ (w.heap.size + 2) 25 _ (0, 0) _ rfl (setRow_heap _ _ _ _ _ _ BR9.out) Try.underlying25 rfl sizePage) rfl ?_
    exact ⟨q, rfl, Q9.out.row BR9.out (by decide) (by decide) _, by rw [G9.out, JX.out]; simp [flt, Pg.wi], below_row _ (bt B3.out B9.out) (by omega)⟩
end Go.Proofs.Ytoachodngjlpaaa
