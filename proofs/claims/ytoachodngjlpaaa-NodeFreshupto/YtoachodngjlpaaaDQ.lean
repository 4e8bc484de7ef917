import Derived.Test.YtoachodngjlpaaaDP
namespace Go.Proofs.Ytoachodngjlpaaa
set_option linter.unusedVariables false
set_option linter.unusedSimpArgs false
open Go.RowKit
theorem Hq.make {v W0 W1 W2 W3 : World} {q1 q2 : Pv} (h1 : Pn W0 W1 q1) (b0 : Below v.heap.size v W0) (b1 : Below W0.heap.size W0 W1) (b12 : Below W1.heap.size W1 W2) (h2 : Pn W2 W3 q2) (b23 : Below W2.heap.size W2 W3) : Hq v W3 q1 q2 none 0 [] := by
  have f1 := (h1.fam b1).keep b12
  have f2 := f1.add (h2.fam b23) b23 (bt b1 b12)
  have bv := bt b0 (bt b1 (bt b12 b23))
  have f3 : Fam W3 W3 [(⟨none, 0, []⟩ : Br)] := ⟨fun t ht => by rw [List.mem_singleton.1 ht]; exact ⟨Own.nil _ (Below.refl _ _), B8.nil⟩, List.pairwise_singleton _ _⟩
  have f4 := (Fam.pre b0 f2).add f3 (Below.refl _ _) bv
  rw [List.append_assoc] at f4
  refine ⟨f4, (h1.it.keep b12).keep b23, h1.itn.mono b0.size, h2.it, h2.itn.mono (bt b0 (bt b1 b12)).size, fun x y hx hy e => ?_, ⟨h1.ns, h1.nk, h1.nl, h1.nn⟩, ⟨h2.ns, h2.nk, h2.nl, h2.nn⟩, bv⟩
  have l1 := h1.it.lt hx
  have l2 : W2.heap.size ≤ y.block := by
    rcases h2.itn y hy with ⟨z, hz, _⟩ | h
    · cases hz
    · exact h
  have := b12.size
  omega
set_option maxHeartbeats 16000000 in
set_option maxRecDepth 8000 in
theorem Split_any (w : World) (p : Pv) (hP : Pi w p) (hd : p.data.length ≤ 140737488355264) (hs : Sml p.items) :
    Calls Try.prog 10 #[p.vl] w fun e w' => ∃ (q1 q2 : Pv) (a : Option Addr) (c : Nat), e = .returned (.tuple #[q1.vl, q2.vl, .slice a (spl p.pg).s.length c, .bool (spl p.pg).ok]) ∧ Hq w w' q1 q2 a c (spl p.pg).s ∧ q1.pg = (spl p.pg).l ∧ q2.pg = (spl p.pg).r := by
  have hL := hP.it.2.1
  have WI := hide fun (W : World) (hb : Below w.heap.size w W) (b n : Nat) (ps : List Pc) (hn : n = ps.length) (hnn : n ≤ 8) (hx : Px W b ps) => with_any W p b ps n hn hnn (hP.bd.keep hb) ⟨hP.nk, hP.nl, hP.nn⟩ hd hx
  have FI := hide fun (W : World) (hb : Below w.heap.size w W) (n : Nat) (hn : n ≤ p.items.length) => first_any W p n (hP.keep hb) hn
  have FR := hide fun (W : World) (hb : Below w.heap.size w W) (n : Nat) (hn : n ≤ p.items.length) => from_any W p n (hP.keep hb) hn
  have IM := hide fun (W : World) => isMeant_any W p
  have SM := hide hs
  obtain ⟨kind, level, aI, cI, L, aD, cD, data, next⟩ := p
  unfold Pv.vl
  simp only [Pv.cs] at *
  unfold Pv.vl at WI FI FR IM
  simp only [Pv.cs] at WI FI FR IM
  have U3 := hide (three_blocks w (.cells #[.int .i64 kind, .int .i64 level, .slice aI L.length cI, .slice aD data.length cD, .int .i64 next] 25) (.cells #[.int .i64 0, .int .i64 0, .slice none 0 0, .slice none 0 0, .int .i64 0] 25) (.cells #[.int .i64 0, .int .i64 0, .slice none 0 0, .slice none 0 0, .int .i64 0] 25))
  obtain ⟨m, hm⟩ : ∃ m, L.length = m := ⟨_, rfl⟩
  have HM := hide hm
  clear hP hd hs
  have EP : Hid ((⟨kind, level, aI, cI, L, aD, cD, data, next⟩ : Pv).pg.items = L.map Iv.it) := rfl
  simp only [hm] at WI FI FR U3 hL IM ⊢
  clear hm
  by_cases hq : mnt kind = true ∧ m = 8
  · obtain ⟨hk, rfl⟩ := hq
    have MZ : Hid (spl (Pv.pg ⟨kind, level, aI, cI, L, aD, cD, data, next⟩) = prt ((Pv.pg ⟨kind, level, aI, cI, L, aD, cD, data, next⟩).wi ((L.take 4).map Iv.it)) ((Pv.pg ⟨kind, level, aI, cI, L, aD, cD, data, next⟩).wi ((L.drop 4).map Iv.it))) := by
      show _ = _
      unfold spl
      rw [if_pos ⟨hk, by rw [EP.out, List.length_map]; exact HM.out⟩, EP.out, List.map_take, List.map_drop]
    obtain ⟨Z, hZ⟩ : ∃ Z, prt ((Pv.pg ⟨kind, level, aI, cI, L, aD, cD, data, next⟩).wi ((L.take 4).map Iv.it)) ((Pv.pg ⟨kind, level, aI, cI, L, aD, cD, data, next⟩).wi ((L.drop 4).map Iv.it)) = Z := ⟨_, rfl⟩
    have HZ := hide hZ
    rw [MZ.out, hZ]
    rw [hk] at IM
    clear hk hL hZ MZ
    go_enter Try.func10, Try.ntmps10
    go_wp2_with fail
    refine (IM.out _).mono ?_
    rintro _ w3 ⟨rfl, h4⟩
    have BP := hide (blk_keep U3.out.1 h4)
    have BR1 := hide (blk_keep U3.out.2.1 h4)
    have BR2 := hide (blk_keep U3.out.2.2.1 h4)
    have B3 := hide (bt U3.out.2.2.2 h4)
    obtain ⟨x0, x1, x2, x3, x4⟩ := cells5 BP.out
    clear h4 U3 IM
    go_wp2_with fail
    clear x0 x1 x2 x3 x4
    have hz3 : w.heap.size + 2 < w3.heap.size := (Array.getElem?_eq_some_iff.1 BR2.out).1
    have SS := hide fun (W : World) (hb : Below w3.heap.size w3 W) => cells5 (blk_keep BP.out hb)
    have D3 := hide (dr2 w3)
    refine wp_region_held_drew (S := fun W => W.cell? ⟨w.heap.size, 0, none⟩ = some (.int .i64 kind) ∧ W.cell? ⟨w.heap.size, 1, none⟩ = some (.int .i64 level) ∧ W.cell? ⟨w.heap.size, 2, none⟩ = some (.slice aI 8 cI) ∧ W.cell? ⟨w.heap.size, 3, none⟩ = some (.slice aD data.length cD) ∧ W.cell? ⟨w.heap.size, 4, none⟩ = some (.int .i64 next)) (by kernel_rfl) (SS.out _ D3.out) (fun hHeld => ?_)
    refine wpAnyH_take (i := 0) (v := ?vah0) rfl (by kernel_rfl) (by kernel_rfl) (by kernel_rfl) (fun _ _ _ h => h) (Or.inl ⟨by rfl, ?hyh0⟩) (by assumption) ?rah0
    case hyh0 => (intro wq hSw; (try dsimp only at hSw); obtain ⟨e0, e1, e2, e3, e4⟩ := hSw; go_simp <;> with_reducible rfl)
    try simp only [Act.put, List.getElem_toArray, List.getElem_cons_zero, List.setIfInBounds_toArray, List.set_cons_zero, List.set_cons_succ]
    refine wpAnyH_take (i := 1) (v := ?vah1) rfl (by kernel_rfl) (by kernel_rfl) (by kernel_rfl) (fun _ _ _ h => h) (Or.inl ⟨by rfl, ?hyh1⟩) (by assumption) ?rah1
    case hyh1 => (intro wq hSw; (try dsimp only at hSw); obtain ⟨e0, e1, e2, e3, e4⟩ := hSw; go_simp <;> with_reducible rfl)
    try simp only [Act.put, List.getElem_toArray, List.getElem_cons_zero, List.getElem_cons_succ, List.setIfInBounds_toArray, List.set_cons_zero, List.set_cons_succ]
    refine wpAnyH_take (i := 5) (v := ?vah5) rfl (by kernel_rfl) (by kernel_rfl) (by kernel_rfl) (fun _ _ _ h => h) (Or.inl ⟨by rfl, ?hyh5⟩) (by assumption) ?rah5
    case hyh5 => (intro wq hSw; (try dsimp only at hSw); obtain ⟨e0, e1, e2, e3, e4⟩ := hSw; go_simp <;> with_reducible rfl)
    try simp only [Act.put, List.getElem_toArray, List.getElem_cons_zero, List.getElem_cons_succ, List.setIfInBounds_toArray, List.set_cons_zero, List.set_cons_succ]
    refine wpAnyH_take (i := 6) (v := ?vah6) rfl (by kernel_rfl) (by kernel_rfl) (by kernel_rfl) (fun _ _ _ h => h) (Or.inl ⟨by rfl, ?hyh6⟩) (by assumption) ?rah6
    case hyh6 => (intro wq hSw; (try dsimp only at hSw); obtain ⟨e0, e1, e2, e3, e4⟩ := hSw; go_simp <;> with_reducible rfl)
    try simp only [Act.put, List.getElem_toArray, List.getElem_cons_zero, List.getElem_cons_succ, List.setIfInBounds_toArray, List.set_cons_zero, List.set_cons_succ]
    refine wpAnyH_ready (rs := [2]) (by kernel_rfl) (by simp) ?_
    refine AllReadyH.cons rfl (fun K hK => ?_) AllReadyH.nil
    go_simp
    refine (FI.out _ (bt B3.out D3.out) 4 (by omega)).mono ?_
    rintro _ w5 ⟨a1, rfl, j1, b1⟩
    have J1 := hide j1
    have B5 := hide (bt D3.out b1)
    clear j1 b1
    go_wp2_with fail
    refine hK.out _ _ (SS.out _ B5.out) (fun hHeld => ?_)
    clear hK K
    try simp only [Act.put, List.getElem_toArray, List.getElem_cons_zero, List.getElem_cons_succ, List.setIfInBounds_toArray, List.set_cons_zero, List.set_cons_succ]
    have PX1 := hide (Px.one (n1 := 4) (c1 := 4) J1.out (by rw [List.length_take, HM.out]; rfl) (SM.out.take 4) (by rw [List.length_take, HM.out]; decide))
    refine wpAnyH_ready (rs := [3]) (by kernel_rfl) (by simp) ?_
    refine AllReadyH.cons rfl (fun K hK => ?_) AllReadyH.nil
    go_simp
    have B6 := hide (bt B5.out (al w5 (.cells #[.slice a1 4 4] 22)))
    refine hK.out _ _ (SS.out _ B6.out) (fun hHeld => ?_)
    clear hK K
    try simp only [Act.put, List.getElem_toArray, List.getElem_cons_zero, List.getElem_cons_succ, List.setIfInBounds_toArray, List.set_cons_zero, List.set_cons_succ]
    refine wpAnyH_ready (rs := [4]) (by kernel_rfl) (by simp) ?_
    refine AllReadyH.cons rfl (fun K hK => ?_) AllReadyH.nil
    go_simp
    refine (WI.out _ (bt B3.out B6.out) _ 1 _ rfl (by decide) PX1.out).mono ?_
    rintro _ w7 ⟨q1, rfl, hq1, hg1, b7⟩
    have Q1 := hide hq1
    have G1 := hide hg1
    have B67 := hide b7
    have B7 := hide (bt B6.out b7)
    clear hq1 hg1 b7
    go_wp2_with fail
    refine hK.out _ _ (SS.out _ B7.out) (fun hHeld => ?_)
    clear hK K
    try simp only [Act.put, List.getElem_toArray, List.getElem_cons_zero, List.getElem_cons_succ, List.setIfInBounds_toArray, List.set_cons_zero, List.set_cons_succ]
    refine wpAnyH_ready (rs := [7]) (by kernel_rfl) (by simp) ?_
    refine AllReadyH.cons rfl (fun K hK => ?_) AllReadyH.nil
    go_simp
    refine (FR.out _ (bt B3.out B7.out) 4 (by omega)).mono ?_
    rintro _ w8 ⟨a2, c2, rfl, j2, b8⟩
    have J2 := hide j2
    have B78 := hide b8
    have B8 := hide (bt B7.out b8)
    clear j2 b8
    go_wp2_with fail
    refine hK.out _ _ (SS.out _ B8.out) (fun hHeld => ?_)
    clear hK K
    try simp only [Act.put, List.getElem_toArray, List.getElem_cons_zero, List.getElem_cons_succ, List.setIfInBounds_toArray, List.set_cons_zero, List.set_cons_succ]
    have PX2 := hide (Px.one (n1 := 4) (c1 := c2) J2.out (by rw [List.length_drop, HM.out]) (SM.out.drop 4) (by rw [List.length_drop, HM.out]; decide))
    refine wpAnyH_ready (rs := [8]) (by kernel_rfl) (by simp) ?_
    refine AllReadyH.cons rfl (fun K hK => ?_) AllReadyH.nil
    go_simp
    have A89 := hide (al w8 (.cells #[.slice a2 4 c2] 22))
    have B9 := hide (bt B8.out A89.out)
    refine hK.out _ _ (SS.out _ B9.out) (fun hHeld => ?_)
    clear hK K
    try simp only [Act.put, List.getElem_toArray, List.getElem_cons_zero, List.getElem_cons_succ, List.setIfInBounds_toArray, List.set_cons_zero, List.set_cons_succ]
    refine wpAnyH_ready (rs := [9]) (by kernel_rfl) (by simp) ?_
    refine AllReadyH.cons rfl (fun K hK => ?_) AllReadyH.nil
    go_simp
    refine (WI.out _ (bt B3.out B9.out) _ 1 _ rfl (by decide) PX2.out).mono ?_
    rintro _ w10 ⟨q2, rfl, hq2, hg2, b10⟩
    have G2 := hide hg2
    have HH := hide (Hq.make (v := w3) Q1.out B6.out B67.out (bt B78.out A89.out) hq2 b10)
    have B10 := hide (bt B9.out b10)
    clear hq2 hg2 b10
    go_wp2_with fail
    refine hK.out _ _ (SS.out _ B10.out) (fun hHeld => ?_)
    clear hK K
    try simp only [Act.put, List.getElem_toArray, List.getElem_cons_zero, List.getElem_cons_succ, List.setIfInBounds_toArray, List.set_cons_zero, List.set_cons_succ]
    have E1 : Hid (q1.items.length = 4) := by
      show _ = _
      have := congrArg (fun p : Pg => p.items.length) G1.out
      simpa [flt, Pv.pg] using (this.trans (by simp [flt, HM.out]))
    have E2 : Hid (q2.items.length = 4) := by
      show _ = _
      have := congrArg (fun p : Pg => p.items.length) G2.out
      simpa [flt, Pv.pg] using (this.trans (by simp [flt, HM.out]))
    have GP1 : Hid (q1.pg = (Pv.pg ⟨kind, level, aI, cI, L, aD, cD, data, next⟩).wi ((L.take 4).map Iv.it)) := by
      show _ = _
      rw [G1.out]
      simp [flt, Pg.wi]
    have GP2 : Hid (q2.pg = (Pv.pg ⟨kind, level, aI, cI, L, aD, cD, data, next⟩).wi ((L.drop 4).map Iv.it)) := by
      show _ = _
      rw [G2.out]
      simp [flt, Pg.wi]
    have PT := hide (parted_any w3 w10 q1 q2 HH.out (by rw [E1.out]; decide) (by rw [E2.out]; decide) (by rw [E1.out]; decide) (by rw [E2.out]; decide))
    rw [GP1.out, GP2.out, HZ.out] at PT
    unfold Pv.vl at PT
    simp only [Pv.cs] at PT
    refine wpAnyH_ready (rs := [10]) (by kernel_rfl) (by simp) ?_
    refine AllReadyH.cons rfl (fun K hK => ?_) AllReadyH.nil
    go_simp
    refine PT.out.mono ?_
    rintro _ w11 ⟨p1, p2, aS, cS, rfl, hH, hp1, hp2⟩
    have HQ := hide hH
    have P1 := hide hp1
    have P2 := hide hp2
    have B11 := hide hH.b
    clear hH hp1 hp2
    go_wp2_with fail
    refine hK.out _ _ (SS.out _ B11.out) (fun hHeld => ?_)
    clear hK K
    try simp only [Act.put, List.getElem_toArray, List.getElem_cons_zero, List.getElem_cons_succ, List.setIfInBounds_toArray, List.set_cons_zero, List.set_cons_succ]
    have BR11 := hide (blk_keep BR1.out B11.out)
    have BR12 := hide (blk_keep BR2.out B11.out)
    refine wpAnyH_take (i := 11) (v := ?vah11) rfl (by kernel_rfl) (by kernel_rfl) (by kernel_rfl) (fun _ _ _ h => h) (Or.inl ⟨by rfl, ?hyh11⟩) (by assumption) ?rah11
    case hyh11 => (intro wq hSw; (try dsimp only at hSw); obtain ⟨e0, e1, e2, e3, e4⟩ := hSw; go_simp <;> with_reducible rfl)
    try simp only [Act.put, List.getElem_toArray, List.getElem_cons_zero, List.getElem_cons_succ, List.setIfInBounds_toArray, List.set_cons_zero, List.set_cons_succ]
    refine wpAnyH_take (i := 12) (v := ?vah12) rfl (by kernel_rfl) (by kernel_rfl) (by kernel_rfl) (fun _ _ _ h => h) (Or.inl ⟨by rfl, ?hyh12⟩) (by assumption) ?rah12
    case hyh12 => (intro wq hSw; (try dsimp only at hSw); obtain ⟨e0, e1, e2, e3, e4⟩ := hSw; go_simp <;> with_reducible rfl)
    try simp only [Act.put, List.getElem_toArray, List.getElem_cons_zero, List.getElem_cons_succ, List.setIfInBounds_toArray, List.set_cons_zero, List.set_cons_succ]
    refine wpAnyH_take (i := 13) (v := ?vah13) rfl (by kernel_rfl) (by kernel_rfl) (by kernel_rfl) (fun _ _ _ h => h) (Or.inl ⟨by rfl, ?hyh13⟩) (by assumption) ?rah13
    case hyh13 => (intro wq hSw; (try dsimp only at hSw); obtain ⟨e0, e1, e2, e3, e4⟩ := hSw; go_simp <;> with_reducible rfl)
    try simp only [Act.put, List.getElem_toArray, List.getElem_cons_zero, List.getElem_cons_succ, List.setIfInBounds_toArray, List.set_cons_zero, List.set_cons_succ]
    refine wpAnyH_take (i := 14) (v := ?vah14) rfl (by kernel_rfl) (by kernel_rfl) (by kernel_rfl) (fun _ _ _ h => h) (Or.inl ⟨by rfl, ?hyh14⟩) (by assumption) ?rah14
    case hyh14 => (intro wq hSw; (try dsimp only at hSw); obtain ⟨e0, e1, e2, e3, e4⟩ := hSw; go_simp <;> with_reducible rfl)
    try simp only [Act.put, List.getElem_toArray, List.getElem_cons_zero, List.getElem_cons_succ, List.setIfInBounds_toArray, List.set_cons_zero, List.set_cons_succ]
    have BX1 := hide (setRow_heap w11 (w.heap.size + 1) _ p1.cs _ _ BR11.out)
    have BX2 := hide (row_far (W := w11) (g := w.heap.size + 1) p1.cs BR12.out (by omega))
    have BY1 := hide (row_far (g := w.heap.size + 2) p2.cs BX1.out (by omega))
    have BY2 := hide (setRow_heap _ (w.heap.size + 2) _ p2.cs _ _ BX2.out)
    simp only [Pv.cs] at BX1 BX2 BY1 BY2
    refine wpAnyH_ready (rs := [15]) (by kernel_rfl) (by simp) ?_
    refine AllReadyH.cons rfl (fun K hK => ?_) AllReadyH.nil
    rw [if_pos (by rfl)]
    refine wp_store_row 25 _ _ rfl (w.heap.size + 1) _ rfl rfl 25 _ BR11.out sizePage rfl (by simp [Value.oneCell']) ?_
    refine hK.out _ _ (cells5 (row_far _ (blk_keep BP.out B11.out) (by omega))) (fun hHeld => ?_)
    clear hK K
    try simp only [Act.put, List.getElem_toArray, List.getElem_cons_zero, List.getElem_cons_succ, List.setIfInBounds_toArray, List.set_cons_zero, List.set_cons_succ]
    refine wpAnyH_ready (rs := [16]) (by kernel_rfl) (by simp) ?_
    refine AllReadyH.cons rfl (fun K hK => ?_) AllReadyH.nil
    rw [if_pos (by rfl)]
    refine wp_store_row 25 _ _ rfl (w.heap.size + 2) _ rfl rfl 25 _ BX2.out sizePage rfl (by simp [Value.oneCell']) ?_
    refine hK.out _ _ (cells5 (row_far _ (row_far _ (blk_keep BP.out B11.out) (by omega)) (by omega))) (fun hHeld => ?_)
    clear hK K
    try simp only [Act.put, List.getElem_toArray, List.getElem_cons_zero, List.getElem_cons_succ, List.setIfInBounds_toArray, List.set_cons_zero, List.set_cons_succ]
    refine wpAnyH_take (i := 17) (v := ?vah17) rfl (by kernel_rfl) (by kernel_rfl) (by kernel_rfl) (fun _ _ _ h => h) (Or.inl ⟨by rfl, ?hyh17⟩) (by assumption) ?rah17
    case hyh17 => (intro wq hSw; (try dsimp only at hSw); obtain ⟨e0, e1, e2, e3, e4⟩ := hSw; go_simp <;> with_reducible rfl)
    try simp only [Act.put, List.getElem_toArray, List.getElem_cons_zero, List.getElem_cons_succ, List.setIfInBounds_toArray, List.set_cons_zero, List.set_cons_succ]
    refine wpAnyH_take (i := 18) (v := ?vah18) rfl (by kernel_rfl) (by kernel_rfl) (by kernel_rfl) (fun _ _ _ h => h) (Or.inl ⟨by rfl, ?hyh18⟩) (by assumption) ?rah18
    case hyh18 => (intro wq hSw; (try dsimp only at hSw); obtain ⟨e0, e1, e2, e3, e4⟩ := hSw; go_simp <;> with_reducible rfl)
    try simp only [Act.put, List.getElem_toArray, List.getElem_cons_zero, List.getElem_cons_succ, List.setIfInBounds_toArray, List.set_cons_zero, List.set_cons_succ]
    refine wpAnyH_done (by kernel_rfl) ?_ _
    clear hHeld
    go_wp2_with fail
    refine bodyPost_ret (v := .tuple #[.agg _, .agg _, _, _]) (results_cells Try.results10 _ _ (w.heap.size + 1) (w.heap.size + 2) 25 25 _ _ (0, 0) (0, 0) _ rfl BY1.out rfl BY2.out Try.underlying25 rfl sizePage sizePage) rfl ?_
    refine ⟨p1, p2, aS, cS, rfl, ?_, P1.out, P2.out⟩
    have hv := HQ.out.pre B3.out
    have h1 := hv.but (but_setRow w11 (w.heap.size + 1) p1.cs) (fun k hk => ⟨_, _, by subst hk; exact BR11.out, by decide, by decide⟩) (below_row _ hv.b (by omega))
    exact h1.but (but_setRow _ (w.heap.size + 2) p2.cs) (fun k hk => ⟨_, _, by subst hk; exact BX2.out, by decide, by decide⟩) (below_row _ h1.b (by omega))
  · have MZ : Hid (spl (Pv.pg ⟨kind, level, aI, cI, L, aD, cD, data, next⟩) = Hv.none) := by
      show _ = _
      unfold spl
      rw [if_neg (fun h => hq ⟨h.1, by have := h.2; rw [EP.out, List.length_map] at this; exact HM.out.symm.trans this⟩)]
    rw [MZ.out]
    cases hk : mnt kind with
    | false =>
      rw [hk] at IM
      clear hk hq WI FI FR
      go_enter Try.func10, Try.ntmps10
      go_wp2_with fail
      refine (IM.out _).mono ?_
      rintro _ w9 ⟨rfl, h4⟩
      have BR1 := hide (blk_keep U3.out.2.1 h4)
      have BR2 := hide (blk_keep U3.out.2.2.1 h4)
      have B3 := hide (bt U3.out.2.2.2 h4)
      clear h4 U3 IM
      have BX1 := hide (setRow_heap w9 (w.heap.size + 1) _ #[.int .i64 0, .int .i64 0, .slice none 0 0, .slice none 0 0, .int .i64 0] _ _ BR1.out)
      have BX2 := hide (row_far (W := w9) (g := w.heap.size + 1) #[.int .i64 0, .int .i64 0, .slice none 0 0, .slice none 0 0, .int .i64 0] BR2.out (by omega))
      have BY1 := hide (row_far (g := w.heap.size + 2) #[.int .i64 0, .int .i64 0, .slice none 0 0, .slice none 0 0, .int .i64 0] BX1.out (by omega))
      have BY2 := hide (setRow_heap _ (w.heap.size + 2) _ #[.int .i64 0, .int .i64 0, .slice none 0 0, .slice none 0 0, .int .i64 0] _ _ BX2.out)
      go_wp2_with (first | (refine wpList_store_row rfl 25 _ _ rfl (w.heap.size + 1) _ rfl rfl 25 _ BR1.out sizePage rfl (by simp [Value.oneCell']) ?_) | (refine wpList_store_row rfl 25 _ _ rfl (w.heap.size + 2) _ rfl rfl 25 _ BX2.out sizePage rfl (by simp [Value.oneCell']) ?_) | fail)
      refine bodyPost_ret (v := .tuple #[.agg _, .agg _, _, _]) (results_cells Try.results10 _ _ (w.heap.size + 1) (w.heap.size + 2) 25 25 _ _ (0, 0) (0, 0) _ rfl BY1.out rfl BY2.out Try.underlying25 rfl sizePage sizePage) rfl ?_
      exact ⟨Pv.zero, Pv.zero, none, 0, rfl, Hq.zero (below_row _ (below_row _ B3.out (by omega)) (by omega)), rfl, rfl⟩
    | true =>
      rw [hk] at IM
      have h8 : ¬ (m : Int) = 8 := fun e => hq ⟨hk, by omega⟩
      clear hk hq WI FI FR
      go_enter Try.func10, Try.ntmps10
      go_wp2_with fail
      refine (IM.out _).mono ?_
      rintro _ w9 ⟨rfl, h4⟩
      have BR1 := hide (blk_keep U3.out.2.1 h4)
      have BR2 := hide (blk_keep U3.out.2.2.1 h4)
      have B3 := hide (bt U3.out.2.2.2 h4)
      obtain ⟨x0, x1, x2, x3, x4⟩ := cells5 (blk_keep U3.out.1 h4)
      clear h4 U3 IM
      have BX1 := hide (setRow_heap w9 (w.heap.size + 1) _ #[.int .i64 0, .int .i64 0, .slice none 0 0, .slice none 0 0, .int .i64 0] _ _ BR1.out)
      have BX2 := hide (row_far (W := w9) (g := w.heap.size + 1) #[.int .i64 0, .int .i64 0, .slice none 0 0, .slice none 0 0, .int .i64 0] BR2.out (by omega))
      have BY1 := hide (row_far (g := w.heap.size + 2) #[.int .i64 0, .int .i64 0, .slice none 0 0, .slice none 0 0, .int .i64 0] BX1.out (by omega))
      have BY2 := hide (setRow_heap _ (w.heap.size + 2) _ #[.int .i64 0, .int .i64 0, .slice none 0 0, .slice none 0 0, .int .i64 0] _ _ BX2.out)
      go_wp2_with (first | (refine wpList_store_row rfl 25 _ _ rfl (w.heap.size + 1) _ rfl rfl 25 _ BR1.out sizePage rfl (by simp [Value.oneCell']) ?_) | (refine wpList_store_row rfl 25 _ _ rfl (w.heap.size + 2) _ rfl rfl 25 _ BX2.out sizePage rfl (by simp [Value.oneCell']) ?_) | fail)
      refine bodyPost_ret (v := .tuple #[.agg _, .agg _, _, _]) (results_cells Try.results10 _ _ (w.heap.size + 1) (w.heap.size + 2) 25 25 _ _ (0, 0) (0, 0) _ rfl BY1.out rfl BY2.out Try.underlying25 rfl sizePage sizePage) rfl ?_
      exact ⟨Pv.zero, Pv.zero, none, 0, rfl, Hq.zero (below_row _ (below_row _ B3.out (by omega)) (by omega)), rfl, rfl⟩
end Go.Proofs.Ytoachodngjlpaaa
