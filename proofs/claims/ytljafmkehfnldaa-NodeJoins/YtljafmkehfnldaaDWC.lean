import Derived.Test.YtljafmkehfnldaaDWA
namespace Go.Proofs.Ytljafmkehfnldaa
set_option linter.unusedVariables false
set_option linter.unusedSimpArgs false
open Go.RowKit
theorem meant_any (w : World) (k : Int) : Calls Try.prog 52 #[.int .i64 k] w fun e w' => e = .returned (.bool (mnt k)) ∧ Below w.heap.size w w' := by
  by_cases h1 : k = 1
  · subst h1
    go_enter Try.func52, Try.ntmps52
    go_wp2
    go_ret
    exact ⟨rfl, Below.refl _ _⟩
  · by_cases h2 : k = 2
    · subst h2
      go_enter Try.func52, Try.ntmps52
      go_wp2
      go_ret
      exact ⟨rfl, Below.refl _ _⟩
    · have hm : mnt k = false := by simp [mnt, h1, h2]
      rw [hm]
      clear hm
      go_enter Try.func52, Try.ntmps52
      go_wp2
      go_ret
      exact ⟨by simp [h1, h2], Below.refl _ _⟩
theorem but_cell {S : Nat → Prop} {w w' : World} (hb : But S w w') {b o : Nat} (hn : ¬ S b) (hl : b < w.heap.size) : w'.cell? ⟨b, o, none⟩ = w.cell? ⟨b, o, none⟩ := by
  have h := hb.block b hl hn
  simp [World.cell?, h]
/-- a page in a box -/
structure Cp (v W : World) (g : Nat) (q : Pv) (P : Pg) : Prop where
  x : W.heap[g]? = some (.cells q.cs 25 (0, 0))
  n : Pn v W q
  e : q.pg = P
  b : Below v.heap.size v W
  l : v.heap.size ≤ g
set_option maxHeartbeats 16000000 in
set_option maxRecDepth 8000 in
theorem rSplit_any (w : World) (p : Pv) (hP : Pj w p) :
    Calls Try.prog 28 #[p.vl] w fun e w' => ∃ (q1 q2 : Pv) (a : Option Addr) (c : Nat), e = .returned (.tuple #[q1.vl, q2.vl, .slice a (spl p.pg).s.length c, .bool (spl p.pg).ok]) ∧ Pi w' q1 ∧ Pi w' q2 ∧ Bs w' a (spl p.pg).s ∧ q1.pg = (spl p.pg).l ∧ q2.pg = (spl p.pg).r ∧ Below w.heap.size w w' := by
  have hL := hP.n
  have hci := hP.i.ci
  have JL := hide hP.i.it
  have SL := hide hP.s
  have SLL := hide hP.s
  have JLL := hide hP.i.it
  have RW := hide fun (W : World) (hb : Below w.heap.size w W) (a : Option Addr) (n c : Nat) (M : List Iv) (hJ : Js W a M) (hn : n = M.length) (hs : Sml M) => rwith_any W p a n c M (hP.keep hb) hJ hn hs
  clear hP
  obtain ⟨kind, level, aI, cI, L, aD, cD, data, next⟩ := p
  unfold Pv.vl at RW ⊢
  simp only [Pv.cs] at RW hL JL SL hci ⊢
  obtain ⟨m, hm⟩ : ∃ m, L.length = m := ⟨_, rfl⟩
  have HM := hide hm
  have EP : Hid ((Pv.pg ⟨kind, level, aI, cI, L, aD, cD, data, next⟩).items = L.map Iv.it) := rfl
  simp only [hm] at RW hL hci ⊢
  clear hm
  have ME := hide fun (W : World) => meant_any W kind
  have U3 := hide (three_blocks w (.cells #[.int .i64 kind, .int .i64 level, .slice aI m cI, .slice aD data.length cD, .int .i64 next] 25) (.cells #[.int .i64 0, .int .i64 0, .slice none 0 0, .slice none 0 0, .int .i64 0] 25) (.cells #[.int .i64 0, .int .i64 0, .slice none 0 0, .slice none 0 0, .int .i64 0] 25))
  by_cases hq : mnt kind = true ∧ m = 8
  · obtain ⟨hk, rfl⟩ := hq
    have MZ : Hid (spl (Pv.pg ⟨kind, level, aI, cI, L, aD, cD, data, next⟩) = prt ((Pv.pg ⟨kind, level, aI, cI, L, aD, cD, data, next⟩).wi ((L.take 4).map Iv.it)) ((Pv.pg ⟨kind, level, aI, cI, L, aD, cD, data, next⟩).wi ((L.drop 4).map Iv.it))) := by
      show _ = _
      unfold spl
      rw [if_pos ⟨hk, by rw [EP.out, List.length_map]; exact HM.out⟩, EP.out, List.map_take, List.map_drop]
    obtain ⟨Z, hZ⟩ : ∃ Z, spl (Pv.pg ⟨kind, level, aI, cI, L, aD, cD, data, next⟩) = Z := ⟨_, rfl⟩
    have HZ := hide (MZ.out.symm.trans hZ)
    rw [hZ]
    rw [hk] at ME
    clear hk hZ MZ
    obtain ⟨bI, off, rfl, rg3⟩ := JL.out.at (r := 3) (by rw [HM.out]; decide)
    obtain ⟨bI', off', ee, rg4⟩ := JL.out.at (r := 4) (by rw [HM.out]; decide)
    cases ee
    have RG3 := hide fun (W : World) (hb : Below w.heap.size w W) => (range4 (range_below rg3 hb)).1
    have RG4 := hide fun (W : World) (hb : Below w.heap.size w W) => (range4 (range_below rg4 hb)).1
    clear rg3 rg4
    go_enter Try.func28, Try.ntmps28
    go_wp2_with fail
    refine (ME.out _).mono ?_
    rintro _ w3 ⟨rfl, h4⟩
    have BP := hide (blk_keep U3.out.1 h4)
    have BR1 := hide (blk_keep U3.out.2.1 h4)
    have BR2 := hide (blk_keep U3.out.2.2.1 h4)
    have B3 := hide (bt U3.out.2.2.2 h4)
    obtain ⟨x0, x1, x2, x3, x4⟩ := cells5 BP.out
    clear h4 U3 ME
    go_wp2_with fail
    clear x0 x1 x2 x3 x4
    have hz3 : w.heap.size + 2 < w3.heap.size := (Array.getElem?_eq_some_iff.1 BR2.out).1
    have SS := hide fun (W : World) (hb : Below w3.heap.size w3 W) => cells5 (blk_keep BP.out hb)
    have RA := hide fun (W : World) (hb : Below w3.heap.size w3 W) => RW.out W (bt B3.out hb) (some ⟨bI, off, none⟩) 4 cI (L.take 4) ((JL.out.take 4).keep (bt B3.out hb)) (by rw [List.length_take, HM.out]; rfl) (SL.out.take 4)
    have RB := hide fun (W : World) (hb : Below w3.heap.size w3 W) (c : Nat) => RW.out W (bt B3.out hb) (some ⟨bI, off + 4 * 4, none⟩) 4 c (L.drop 4) ((JL.out.drop 4).keep (bt B3.out hb)) (by rw [List.length_drop, HM.out]) (SL.out.drop 4)
    have hc8 : 4 < cI := by omega
    have hc8I : (4 : Int) < (cI : Int) := by omega
    have hc4I : (4 : Int) ≤ (cI : Int) := by omega
    have hcne : ¬ cI = 4 := by omega
    have D3 := hide (dr2 w3)
    go_cut [6] from 23 to 27 (fun pp wx => ∃ (g6 : Nat) (q1 : Pv), pp = .pointer (some ⟨g6, 0, none⟩) ∧ Cp w3 wx g6 q1 ((Pv.pg ⟨kind, level, some ⟨bI, off, none⟩, cI, L, aD, cD, data, next⟩).wi ((L.take 4).map Iv.it)))
    case first =>
      refine wp_region_held_drew (S := fun W => W.cell? ⟨w.heap.size, 0, none⟩ = some (.int .i64 kind) ∧ W.cell? ⟨w.heap.size, 1, none⟩ = some (.int .i64 level) ∧ W.cell? ⟨w.heap.size, 2, none⟩ = some (.slice (some ⟨bI, off, none⟩) 8 cI) ∧ W.cell? ⟨w.heap.size, 3, none⟩ = some (.slice aD data.length cD) ∧ W.cell? ⟨w.heap.size, 4, none⟩ = some (.int .i64 next)) (by kernel_rfl) (SS.out _ D3.out) (fun hHeld => ?_)
      refine wpAnyH_take (i := 0) (v := ?vaa0) rfl (by kernel_rfl) (by kernel_rfl) (by kernel_rfl) (fun _ _ _ h => h) (Or.inl ⟨by rfl, ?hya0⟩) (by assumption) ?raa0
      case hya0 => (intro wq hSw; (try dsimp only at hSw); obtain ⟨e0, e1, e2, e3, e4⟩ := hSw; go_simp <;> with_reducible rfl)
      try simp only [Act.put, List.getElem_toArray, List.getElem_cons_zero, List.setIfInBounds_toArray, List.set_cons_zero, List.set_cons_succ]
      refine wpAnyH_take (i := 1) (v := ?vaa1) rfl (by kernel_rfl) (by kernel_rfl) (by kernel_rfl) (fun _ _ _ h => h) (Or.inl ⟨by rfl, ?hya1⟩) (by assumption) ?raa1
      case hya1 => (intro wq hSw; (try dsimp only at hSw); obtain ⟨e0, e1, e2, e3, e4⟩ := hSw; go_simp <;> with_reducible rfl)
      try simp only [Act.put, List.getElem_toArray, List.getElem_cons_zero, List.getElem_cons_succ, List.setIfInBounds_toArray, List.set_cons_zero, List.set_cons_succ]
      refine wpAnyH_take (i := 2) (v := ?vaa2) rfl (by kernel_rfl) (by kernel_rfl) (by kernel_rfl) (fun _ _ _ h => h) (Or.inl ⟨by rfl, ?hya2⟩) (by assumption) ?raa2
      case hya2 => (intro wq hSw; (try dsimp only at hSw); obtain ⟨e0, e1, e2, e3, e4⟩ := hSw; go_simp <;> with_reducible rfl)
      try simp only [Act.put, List.getElem_toArray, List.getElem_cons_zero, List.getElem_cons_succ, List.setIfInBounds_toArray, List.set_cons_zero, List.set_cons_succ]
      refine wpAnyH_take (i := 3) (v := ?vaa3) rfl (by kernel_rfl) (by kernel_rfl) (by kernel_rfl) (fun _ _ _ h => h) (Or.inl ⟨by rfl, ?hya3⟩) (by assumption) ?raa3
      case hya3 => (intro wq hSw; (try dsimp only at hSw); obtain ⟨e0, e1, e2, e3, e4⟩ := hSw; go_simp <;> with_reducible rfl)
      try simp only [Act.put, List.getElem_toArray, List.getElem_cons_zero, List.getElem_cons_succ, List.setIfInBounds_toArray, List.set_cons_zero, List.set_cons_succ]
      refine wpAnyH_ready (rs := [4, 5]) (by kernel_rfl) (by simp) ?_
      refine AllReadyH.cons rfl (fun K hK => ?_) (AllReadyH.cons rfl (fun K hK => ?_) AllReadyH.nil)
      · go_simp
        refine (RA.out _ D3.out).mono ?_
        rintro _ w5 ⟨Q, rfl, hn, hg, hb⟩
        have N5 := hide (hn.pre D3.out.size)
        have G5 := hide hg
        have B5 := hide (bt D3.out hb)
        have BB5 := hide (bt D3.out hb)
        clear hn hg hb
        go_wp2_with fail
        refine hK.out _ _ (SS.out _ BB5.out) (fun hHeld => ?_)
        clear hK K
        try simp only [Act.put, List.getElem_toArray, List.getElem_cons_zero, List.getElem_cons_succ, List.setIfInBounds_toArray, List.set_cons_zero, List.set_cons_succ]
        refine wpAnyH_ready (rs := [5]) (by kernel_rfl) (by simp) ?_
        refine AllReadyH.cons rfl (fun K hK => ?_) AllReadyH.nil
        go_simp
        have A6 := hide (al w5 (.cells #[.int .i64 0, .int .i64 0, .slice none 0 0, .slice none 0 0, .int .i64 0] 25))
        have X6 := hide (heap_alloc_new w5 (.cells #[.int .i64 0, .int .i64 0, .slice none 0 0, .slice none 0 0, .int .i64 0] 25))
        refine hK.out _ _ (SS.out _ (bt BB5.out A6.out)) (fun hHeld => ?_)
        clear hK K
        try simp only [Act.put, List.getElem_toArray, List.getElem_cons_zero, List.getElem_cons_succ, List.setIfInBounds_toArray, List.set_cons_zero, List.set_cons_succ]
        refine wpAnyH_ready (rs := [6]) (by kernel_rfl) (by simp) ?_
        refine AllReadyH.cons rfl (fun K hK => ?_) AllReadyH.nil
        rw [if_pos (by rfl)]
        have LW5 := B5.out.size
        refine wp_store_row 25 _ _ rfl w5.heap.size _ rfl rfl 25 _ X6.out sizePage rfl (by simp [Value.oneCell']) ?_
        refine hK.out _ _ (cells5 (row_far _ (blk_keep BP.out (bt B5.out A6.out)) (by omega))) (fun hHeld => ?_)
        clear hK K
        try simp only [Act.put, List.getElem_toArray, List.getElem_cons_zero, List.getElem_cons_succ, List.setIfInBounds_toArray, List.set_cons_zero, List.set_cons_succ]
        refine wpAnyH_done (by kernel_rfl) ?_ _
        clear hHeld
        go_wp2_with fail
        go_meet
        case rel => exact ⟨w5.heap.size, Q, rfl, ⟨setRow_heap _ _ _ _ _ _ X6.out, (N5.out.keep A6.out).row X6.out (by decide) (by decide) _, G5.out, below_row _ (bt B5.out A6.out) LW5, LW5⟩⟩
      · go_simp
        have A6 := hide (bt (al w3 (.cells #[.int .i64 0, .int .i64 0, .slice none 0 0, .slice none 0 0, .int .i64 0] 25)) (dr2 _))
        have X6 : Hid ((w3.alloc (.cells #[.int .i64 0, .int .i64 0, .slice none 0 0, .slice none 0 0, .int .i64 0] 25)).drew.heap[w3.heap.size]? = some (.cells #[.int .i64 0, .int .i64 0, .slice none 0 0, .slice none 0 0, .int .i64 0] 25 (0, 0))) := heap_alloc_new w3 (.cells #[.int .i64 0, .int .i64 0, .slice none 0 0, .slice none 0 0, .int .i64 0] 25)
        have DA := hide (bt (Below.refl w3.heap.size w3) A6.out)
        refine hK.out _ _ (SS.out _ DA.out) (fun hHeld => ?_)
        clear hK K
        try simp only [Act.put, List.getElem_toArray, List.getElem_cons_zero, List.getElem_cons_succ, List.setIfInBounds_toArray, List.set_cons_zero, List.set_cons_succ]
        refine wpAnyH_ready (rs := [4]) (by kernel_rfl) (by simp) ?_
        refine AllReadyH.cons rfl (fun K hK => ?_) AllReadyH.nil
        go_simp
        refine (RA.out _ DA.out).mono ?_
        rintro _ w5 ⟨Q, rfl, hn, hg, hb⟩
        have N5 := hide (hn.pre A6.out.size)
        have G5 := hide hg
        have B5 := hide (bt A6.out hb)
        have BB5 := hide (bt DA.out hb)
        have X7 := hide (blk_keep X6.out hb)
        clear hn hg hb
        go_wp2_with fail
        refine hK.out _ _ (SS.out _ BB5.out) (fun hHeld => ?_)
        clear hK K
        try simp only [Act.put, List.getElem_toArray, List.getElem_cons_zero, List.getElem_cons_succ, List.setIfInBounds_toArray, List.set_cons_zero, List.set_cons_succ]
        refine wpAnyH_ready (rs := [6]) (by kernel_rfl) (by simp) ?_
        refine AllReadyH.cons rfl (fun K hK => ?_) AllReadyH.nil
        rw [if_pos (by rfl)]
        refine wp_store_row 25 _ _ rfl w3.heap.size _ rfl rfl 25 _ X7.out sizePage rfl (by simp [Value.oneCell']) ?_
        refine hK.out _ _ (cells5 (row_far _ (blk_keep BP.out B5.out) (by omega))) (fun hHeld => ?_)
        clear hK K
        try simp only [Act.put, List.getElem_toArray, List.getElem_cons_zero, List.getElem_cons_succ, List.setIfInBounds_toArray, List.set_cons_zero, List.set_cons_succ]
        refine wpAnyH_done (by kernel_rfl) ?_ _
        clear hHeld
        go_wp2_with fail
        go_meet
        case rel => exact ⟨w3.heap.size, Q, rfl, ⟨setRow_heap _ _ _ _ _ _ X7.out, N5.out.row X7.out (by decide) (by decide) _, G5.out, below_row _ B5.out (Nat.le_refl _), Nat.le_refl _⟩⟩
    case rest =>
      obtain ⟨g6, q1, rfl, hC1⟩ := hcut
      have C1 := hide hC1
      clear hC1
      go_wp2_with fail
      have D4 := hide (bt C1.out.b (dr2 wc))
      have DW := hide (dr2 wc)
      have BP4 := hide (blk_keep BP.out C1.out.b)
      have hzc : w3.heap.size ≤ wc.heap.size := C1.out.b.size
      have hg6 : g6 < wc.heap.size := (Array.getElem?_eq_some_iff.1 C1.out.x).1
      have hl6 := C1.out.l
      have C1b := hide fun (W : World) (hb : Below wc.heap.size wc W) => (show W.heap[g6]? = _ from blk_keep C1.out.x hb)
      have H12 := hide fun (W : World) (q2 : Pv) (h2 : Pn wc W q2) (hb : Below wc.heap.size wc W) => Hq.make (v := w3) C1.out.n (Below.refl _ _) C1.out.b (Below.refl _ _) h2 hb
      have E1 := hide C1.out.e
      have BC := hide C1.out.b
      go_cut [7] from 28 to 32 (fun pp wx => ∃ (g7 : Nat) (q2 : Pv), pp = .pointer (some ⟨g7, 0, none⟩) ∧ Cp wc wx g7 q2 ((Pv.pg ⟨kind, level, some ⟨bI, off, none⟩, cI, L, aD, cD, data, next⟩).wi ((L.drop 4).map Iv.it)))
      case first =>
        refine wp_region_held_drew (S := fun W => W.cell? ⟨w.heap.size, 0, none⟩ = some (.int .i64 kind) ∧ W.cell? ⟨w.heap.size, 1, none⟩ = some (.int .i64 level) ∧ W.cell? ⟨w.heap.size, 2, none⟩ = some (.slice (some ⟨bI, off, none⟩) 8 cI) ∧ W.cell? ⟨w.heap.size, 3, none⟩ = some (.slice aD data.length cD) ∧ W.cell? ⟨w.heap.size, 4, none⟩ = some (.int .i64 next)) (by kernel_rfl) (SS.out _ D4.out) (fun hHeld => ?_)
        refine wpAnyH_take (i := 0) (v := ?vab0) rfl (by kernel_rfl) (by kernel_rfl) (by kernel_rfl) (fun _ _ _ h => h) (Or.inl ⟨by rfl, ?hyb0⟩) (by assumption) ?rab0
        case hyb0 => (intro wq hSw; (try dsimp only at hSw); obtain ⟨e0, e1, e2, e3, e4⟩ := hSw; go_simp <;> with_reducible rfl)
        try simp only [Act.put, List.getElem_toArray, List.getElem_cons_zero, List.setIfInBounds_toArray, List.set_cons_zero, List.set_cons_succ]
        refine wpAnyH_take (i := 1) (v := ?vab1) rfl (by kernel_rfl) (by kernel_rfl) (by kernel_rfl) (fun _ _ _ h => h) (Or.inl ⟨by rfl, ?hyb1⟩) (by assumption) ?rab1
        case hyb1 => (intro wq hSw; (try dsimp only at hSw); obtain ⟨e0, e1, e2, e3, e4⟩ := hSw; go_simp <;> with_reducible rfl)
        try simp only [Act.put, List.getElem_toArray, List.getElem_cons_zero, List.getElem_cons_succ, List.setIfInBounds_toArray, List.set_cons_zero, List.set_cons_succ]
        refine wpAnyH_take (i := 2) (v := ?vab2) rfl (by kernel_rfl) (by kernel_rfl) (by kernel_rfl) (fun _ _ _ h => h) (Or.inl ⟨by rfl, ?hyb2⟩) (by assumption) ?rab2
        case hyb2 => (intro wq hSw; (try dsimp only at hSw); obtain ⟨e0, e1, e2, e3, e4⟩ := hSw; go_simp <;> with_reducible rfl)
        try simp only [Act.put, List.getElem_toArray, List.getElem_cons_zero, List.getElem_cons_succ, List.setIfInBounds_toArray, List.set_cons_zero, List.set_cons_succ]
        refine wpAnyH_take (i := 3) (v := ?vab3) rfl (by kernel_rfl) (by kernel_rfl) (by kernel_rfl) (fun _ _ _ h => h) (Or.inl ⟨by rfl, ?hyb3⟩) (by assumption) ?rab3
        case hyb3 => (intro wq hSw; (try dsimp only at hSw); obtain ⟨e0, e1, e2, e3, e4⟩ := hSw; go_simp <;> with_reducible rfl)
        try simp only [Act.put, List.getElem_toArray, List.getElem_cons_zero, List.getElem_cons_succ, List.setIfInBounds_toArray, List.set_cons_zero, List.set_cons_succ]
        refine wpAnyH_ready (rs := [4, 5]) (by kernel_rfl) (by simp) ?_
        refine AllReadyH.cons rfl (fun K hK => ?_) (AllReadyH.cons rfl (fun K hK => ?_) AllReadyH.nil)
        · go_simp
          refine (RB.out _ D4.out _).mono ?_
          rintro _ w5 ⟨Q, rfl, hn, hg, hb⟩
          have N5 := hide (hn.pre DW.out.size)
          have G5 := hide hg
          have B5 := hide (bt DW.out hb)
          have BB5 := hide (bt D4.out hb)
          clear hn hg hb
          go_wp2_with fail
          refine hK.out _ _ (SS.out _ BB5.out) (fun hHeld => ?_)
          clear hK K
          try simp only [Act.put, List.getElem_toArray, List.getElem_cons_zero, List.getElem_cons_succ, List.setIfInBounds_toArray, List.set_cons_zero, List.set_cons_succ]
          refine wpAnyH_ready (rs := [5]) (by kernel_rfl) (by simp) ?_
          refine AllReadyH.cons rfl (fun K hK => ?_) AllReadyH.nil
          go_simp
          have A6 := hide (al w5 (.cells #[.int .i64 0, .int .i64 0, .slice none 0 0, .slice none 0 0, .int .i64 0] 25))
          have X6 := hide (heap_alloc_new w5 (.cells #[.int .i64 0, .int .i64 0, .slice none 0 0, .slice none 0 0, .int .i64 0] 25))
          refine hK.out _ _ (SS.out _ (bt BB5.out A6.out)) (fun hHeld => ?_)
          clear hK K
          try simp only [Act.put, List.getElem_toArray, List.getElem_cons_zero, List.getElem_cons_succ, List.setIfInBounds_toArray, List.set_cons_zero, List.set_cons_succ]
          refine wpAnyH_ready (rs := [6]) (by kernel_rfl) (by simp) ?_
          refine AllReadyH.cons rfl (fun K hK => ?_) AllReadyH.nil
          rw [if_pos (by rfl)]
          have LW5 := B5.out.size
          refine wp_store_row 25 _ _ rfl w5.heap.size _ rfl rfl 25 _ X6.out sizePage rfl (by simp [Value.oneCell']) ?_
          refine hK.out _ _ (cells5 (row_far _ (blk_keep BP4.out (bt B5.out A6.out)) (by omega))) (fun hHeld => ?_)
          clear hK K
          try simp only [Act.put, List.getElem_toArray, List.getElem_cons_zero, List.getElem_cons_succ, List.setIfInBounds_toArray, List.set_cons_zero, List.set_cons_succ]
          refine wpAnyH_done (by kernel_rfl) ?_ _
          clear hHeld
          go_wp2_with fail
          go_meet
          case rel => exact ⟨w5.heap.size, Q, rfl, ⟨setRow_heap _ _ _ _ _ _ X6.out, (N5.out.keep A6.out).row X6.out (by decide) (by decide) _, G5.out, below_row _ (bt B5.out A6.out) LW5, LW5⟩⟩
        · go_simp
          have A6 := hide (bt (al wc (.cells #[.int .i64 0, .int .i64 0, .slice none 0 0, .slice none 0 0, .int .i64 0] 25)) (dr2 _))
          have X6 : Hid ((wc.alloc (.cells #[.int .i64 0, .int .i64 0, .slice none 0 0, .slice none 0 0, .int .i64 0] 25)).drew.heap[wc.heap.size]? = some (.cells #[.int .i64 0, .int .i64 0, .slice none 0 0, .slice none 0 0, .int .i64 0] 25 (0, 0))) := heap_alloc_new wc (.cells #[.int .i64 0, .int .i64 0, .slice none 0 0, .slice none 0 0, .int .i64 0] 25)
          have DA := hide (bt BC.out A6.out)
          refine hK.out _ _ (SS.out _ DA.out) (fun hHeld => ?_)
          clear hK K
          try simp only [Act.put, List.getElem_toArray, List.getElem_cons_zero, List.getElem_cons_succ, List.setIfInBounds_toArray, List.set_cons_zero, List.set_cons_succ]
          refine wpAnyH_ready (rs := [4]) (by kernel_rfl) (by simp) ?_
          refine AllReadyH.cons rfl (fun K hK => ?_) AllReadyH.nil
          go_simp
          refine (RB.out _ DA.out _).mono ?_
          rintro _ w5 ⟨Q, rfl, hn, hg, hb⟩
          have N5 := hide (hn.pre A6.out.size)
          have G5 := hide hg
          have B5 := hide (bt A6.out hb)
          have BB5 := hide (bt DA.out hb)
          have X7 := hide (blk_keep X6.out hb)
          clear hn hg hb
          go_wp2_with fail
          refine hK.out _ _ (SS.out _ BB5.out) (fun hHeld => ?_)
          clear hK K
          try simp only [Act.put, List.getElem_toArray, List.getElem_cons_zero, List.getElem_cons_succ, List.setIfInBounds_toArray, List.set_cons_zero, List.set_cons_succ]
          refine wpAnyH_ready (rs := [6]) (by kernel_rfl) (by simp) ?_
          refine AllReadyH.cons rfl (fun K hK => ?_) AllReadyH.nil
          rw [if_pos (by rfl)]
          refine wp_store_row 25 _ _ rfl wc.heap.size _ rfl rfl 25 _ X7.out sizePage rfl (by simp [Value.oneCell']) ?_
          refine hK.out _ _ (cells5 (row_far _ (blk_keep BP4.out B5.out) (by omega))) (fun hHeld => ?_)
          clear hK K
          try simp only [Act.put, List.getElem_toArray, List.getElem_cons_zero, List.getElem_cons_succ, List.setIfInBounds_toArray, List.set_cons_zero, List.set_cons_succ]
          refine wpAnyH_done (by kernel_rfl) ?_ _
          clear hHeld
          go_wp2_with fail
          go_meet
          case rel => exact ⟨wc.heap.size, Q, rfl, ⟨setRow_heap _ _ _ _ _ _ X7.out, N5.out.row X7.out (by decide) (by decide) _, G5.out, below_row _ B5.out (Nat.le_refl _), Nat.le_refl _⟩⟩
      case rest =>
        obtain ⟨g7, q2, rfl, hC2⟩ := hcut
        have E2 := hide hC2.e
        have X7 := hide hC2.x
        have X6 := hide (C1b.out _ hC2.b)
        have HH := hide (H12.out _ _ hC2.n hC2.b)
        have BW := hide (bt B3.out (bt BC.out hC2.b))
        have BX := hide (bt BC.out hC2.b)
        have BR1' := hide (blk_keep BR1.out BX.out)
        have BR2' := hide (blk_keep BR2.out BX.out)
        have BP' := hide (blk_keep BP.out BX.out)
        have hl7 := hC2.l
        have L1 : Hid (q1.items.length = 4) := by
          have := congrArg (fun p : Pg => p.items.length) E1.out
          simp only [Pv.pg, Pg.wi, List.length_map, List.length_take, HM.out] at this
          exact this
        have L2 : Hid (q2.items.length = 4) := by
          have := congrArg (fun p : Pg => p.items.length) E2.out
          simp only [Pv.pg, Pg.wi, List.length_map, List.length_drop, HM.out] at this
          exact this
        have K2 : Hid (q2.kind = kind) := congrArg Pg.kind E2.out
        clear hC2 C1 C1b H12 RA RB SS D3 D4 DW BP4 RW JL SL
        have ZZ : Hid (prt q1.pg q2.pg = Z) := by show _ = _; rw [E1.out, E2.out]; exact HZ.out
        obtain ⟨x0, x1, x2, x3, x4⟩ := cells5 BP'.out
        by_cases hk : kind = 2
        · have hkb : (kind == 2) = true := by simpa using hk
          have K22 : Hid (q2.kind = 2) := K2.out.trans hk
          clear hk
          obtain ⟨gI, eI, -, -⟩ := HH.out.j2.addr (by rw [L2.out]; decide)
          obtain ⟨kk2, level2, aI2, cI2, L2L, aD2, cD2, data2, next2⟩ := q2
          simp only at eI K22
          obtain rfl : kk2 = 2 := K22.out
          subst eI
          cases L2L with
          | nil => exact absurd L2.out (by simp)
          | cons X R =>
          obtain ⟨hK, hcK, hkey, hV, hcV, hval, hch, hsz⟩ := X
          have j4 := HH.out.j2.item4 (k := 0) (by simp)
          simp only [List.getD_cons_zero, Nat.zero_mul, Nat.zero_add] at j4
          obtain ⟨⟨k0, k1, k2, k3⟩, z0, z1, z2, z3⟩ := j4
          have IX := hide ((Fam.ii (HH.out.p2.fam HH.out.b |>.sub (List.sublist_cons_self _ _)) HH.out.k2.1) ⟨hK, hcK, hkey, hV, hcV, hval, hch, hsz⟩ List.mem_cons_self)
          have LR : Hid (R.length + 1 = 4) := L2.out
          have KL : Hid (hkey.length ≤ 140737488355264) := by
            have hm : (⟨hkey, hval, hch, hsz⟩ : It) ∈ (L.drop 4).map Iv.it := by
              have e : (Pv.pg _).items = _ := congrArg Pg.items E2.out
              have e2 : (⟨hkey, hval, hch, hsz⟩ : It) :: R.map Iv.it = (L.drop 4).map Iv.it := e
              rw [← e2]
              exact List.mem_cons_self
            obtain ⟨y, hy, ey⟩ := List.mem_map.1 hm
            have : y.key = hkey := congrArg It.key ey
            rw [← this]
            exact (SLL.out y (List.mem_of_mem_drop hy)).1
          have CB := hide (CopyBytes_at wc hK hkey.length hcK hkey IX.out.bk rfl KL.out)
          have y7 := cells5 X7.out
          simp only [Pv.cs, List.length_cons, LR.out] at y7 X7
          obtain ⟨y0, y1, y2, y3, y4⟩ := y7
          have hgI : gI < wc.heap.size := block_lt_of_cell k0
          go_wp2_with fail
          refine CB.out.mono ?_
          rintro _ w6 ⟨aS, cS, rfl, hO⟩
          have O6 := hide hO
          have HH6 := hide ((HH.out.keep hO.b).cut)
          have B6 := hide hO.b
          have nB := But.cell1 w6 gI 0 (.slice none 0 0)
          have OB : Hid (Rw (w6.setCell ⟨gI, 0, none⟩ (.slice none 0 0)) aS cS hkey) := by
            have jj := HH.out.j2.keep hO.b
            exact hO.r.but nB (fun x hx e => jj.ne hO.r rfl hx e.symm)
          have jj := HH.out.j2.keep hO.b
          have nt : ∀ {g : Nat} {c : Array Value}, w6.heap[g]? = some (.cells c 25 (0, 0)) → g ≠ gI := fun hg e => jj.nty (show Bx w6 25 _ _ from hg) (by decide) rfl e.symm
          have X6' := hide ((Below.heap_setCell w6 ⟨gI, 0, none⟩ (.slice none 0 0) g6 (nt (blk_keep X6.out hO.b))).trans (blk_keep X6.out hO.b))
          have X7' := hide ((Below.heap_setCell w6 ⟨gI, 0, none⟩ (.slice none 0 0) g7 (nt (blk_keep X7.out hO.b))).trans (blk_keep X7.out hO.b))
          have R1' := hide ((Below.heap_setCell w6 ⟨gI, 0, none⟩ (.slice none 0 0) (w.heap.size + 1) (nt (blk_keep BR1'.out hO.b))).trans (blk_keep BR1'.out hO.b))
          have R2' := hide ((Below.heap_setCell w6 ⟨gI, 0, none⟩ (.slice none 0 0) (w.heap.size + 2) (nt (blk_keep BR2'.out hO.b))).trans (blk_keep BR2'.out hO.b))
          obtain ⟨⟨k0', k1', k2', k3'⟩, z0', z1', z2', z3'⟩ := (HH.out.j2.keep hO.b).item4 (k := 0) (by simp)
          simp only [List.getD_cons_zero, Nat.zero_mul, Nat.zero_add] at k0' z0'
          obtain ⟨u0, u1, u2, u3, u4⟩ := cells5 (blk_keep X7.out hO.b)
          clear hO jj nB x0 x1 x2 x3 x4 y0 y1 y2 y3 y4 k0 k1 k2 k3 z0 z1 z2 z3 CB k1' k2' k3' z1' z2' z3'
          go_wp2_with fail
          clear u0 u1 u2 u3 u4 k0' z0'
          generalize w6.setCell ⟨gI, 0, none⟩ (.slice none 0 0) = w7 at *
          simp only [Pv.cs] at X6' X7'
          have SS6 := hide (show (fun W : World => (W.cell? ⟨g6, 0, none⟩ = some (.int .i64 q1.kind) ∧ W.cell? ⟨g6, 1, none⟩ = some (.int .i64 q1.level) ∧ W.cell? ⟨g6, 2, none⟩ = some (.slice q1.aI q1.items.length q1.cI) ∧ W.cell? ⟨g6, 3, none⟩ = some (.slice q1.aD q1.data.length q1.cD) ∧ W.cell? ⟨g6, 4, none⟩ = some (.int .i64 q1.next)) ∧ (W.cell? ⟨g7, 0, none⟩ = some (.int .i64 2) ∧ W.cell? ⟨g7, 1, none⟩ = some (.int .i64 level2) ∧ W.cell? ⟨g7, 2, none⟩ = some (.slice (some ⟨gI, 0, none⟩) 4 cI2) ∧ W.cell? ⟨g7, 3, none⟩ = some (.slice aD2 data2.length cD2) ∧ W.cell? ⟨g7, 4, none⟩ = some (.int .i64 next2))) w7.drew from ⟨cells5 X6'.out, cells5 X7'.out⟩)
          refine wp_region_held_drew (S := fun W => (W.cell? ⟨g6, 0, none⟩ = some (.int .i64 q1.kind) ∧ W.cell? ⟨g6, 1, none⟩ = some (.int .i64 q1.level) ∧ W.cell? ⟨g6, 2, none⟩ = some (.slice q1.aI q1.items.length q1.cI) ∧ W.cell? ⟨g6, 3, none⟩ = some (.slice q1.aD q1.data.length q1.cD) ∧ W.cell? ⟨g6, 4, none⟩ = some (.int .i64 q1.next)) ∧ (W.cell? ⟨g7, 0, none⟩ = some (.int .i64 2) ∧ W.cell? ⟨g7, 1, none⟩ = some (.int .i64 level2) ∧ W.cell? ⟨g7, 2, none⟩ = some (.slice (some ⟨gI, 0, none⟩) 4 cI2) ∧ W.cell? ⟨g7, 3, none⟩ = some (.slice aD2 data2.length cD2) ∧ W.cell? ⟨g7, 4, none⟩ = some (.int .i64 next2))) (by kernel_rfl) (SS6.out) (fun hHeld => ?_)
          refine wpAnyH_take (i := 0) (v := ?vac0) rfl (by kernel_rfl) (by kernel_rfl) (by kernel_rfl) (fun _ _ _ h => h) (Or.inl ⟨by rfl, ?hyc0⟩) (by assumption) ?rac0
          case hyc0 => (intro wq hSw; (try dsimp only at hSw); obtain ⟨⟨e0, e1, e2, e3, e4⟩, g0, g1, g2, g3, g4⟩ := hSw; go_simp <;> with_reducible rfl)
          try simp only [Act.put, List.getElem_toArray, List.getElem_cons_zero, List.setIfInBounds_toArray, List.set_cons_zero, List.set_cons_succ]
          refine wpAnyH_take (i := 1) (v := ?vac1) rfl (by kernel_rfl) (by kernel_rfl) (by kernel_rfl) (fun _ _ _ h => h) (Or.inl ⟨by rfl, ?hyc1⟩) (by assumption) ?rac1
          case hyc1 => (intro wq hSw; (try dsimp only at hSw); obtain ⟨⟨e0, e1, e2, e3, e4⟩, g0, g1, g2, g3, g4⟩ := hSw; go_simp <;> with_reducible rfl)
          try simp only [Act.put, List.getElem_toArray, List.getElem_cons_zero, List.getElem_cons_succ, List.setIfInBounds_toArray, List.set_cons_zero, List.set_cons_succ]
          refine wpAnyH_take (i := 2) (v := ?vac2) rfl (by kernel_rfl) (by kernel_rfl) (by kernel_rfl) (fun _ _ _ h => h) (Or.inl ⟨by rfl, ?hyc2⟩) (by assumption) ?rac2
          case hyc2 => (intro wq hSw; (try dsimp only at hSw); obtain ⟨⟨e0, e1, e2, e3, e4⟩, g0, g1, g2, g3, g4⟩ := hSw; go_simp <;> with_reducible rfl)
          try simp only [Act.put, List.getElem_toArray, List.getElem_cons_zero, List.getElem_cons_succ, List.setIfInBounds_toArray, List.set_cons_zero, List.set_cons_succ]
          have BX1 := hide (setRow_heap w7.drew (w.heap.size + 1) _ #[.int .i64 q1.kind, .int .i64 q1.level, .slice q1.aI q1.items.length q1.cI, .slice q1.aD q1.data.length q1.cD, .int .i64 q1.next] _ _ R1'.out)
          have BX2 := hide (row_far (W := w7.drew) (g := w.heap.size + 1) #[.int .i64 q1.kind, .int .i64 q1.level, .slice q1.aI q1.items.length q1.cI, .slice q1.aD q1.data.length q1.cD, .int .i64 q1.next] R2'.out (by omega))
          refine wpAnyH_ready (rs := [3]) (by kernel_rfl) (by simp) ?_
          refine AllReadyH.cons rfl (fun K hK => ?_) AllReadyH.nil
          rw [if_pos (by rfl)]
          refine wp_store_row 25 _ _ rfl (w.heap.size + 1) _ rfl rfl 25 _ R1'.out sizePage rfl (by simp [Value.oneCell']) ?_
          refine hK.out _ _ ⟨cells5 (row_far _ X6'.out (by omega)), cells5 (row_far _ X7'.out (by omega))⟩ (fun hHeld => ?_)
          clear hK K
          try simp only [Act.put, List.getElem_toArray, List.getElem_cons_zero, List.getElem_cons_succ, List.setIfInBounds_toArray, List.set_cons_zero, List.set_cons_succ]
          have BY1 := hide (row_far (g := w.heap.size + 2) #[.int .i64 2, .int .i64 level2, .slice (some ⟨gI, 0, none⟩) 4 cI2, .slice aD2 data2.length cD2, .int .i64 next2] BX1.out (by omega))
          have BY2 := hide (setRow_heap _ (w.heap.size + 2) _ #[.int .i64 2, .int .i64 level2, .slice (some ⟨gI, 0, none⟩) 4 cI2, .slice aD2 data2.length cD2, .int .i64 next2] _ _ BX2.out)
          refine wpAnyH_ready (rs := [4]) (by kernel_rfl) (by simp) ?_
          refine AllReadyH.cons rfl (fun K hK => ?_) AllReadyH.nil
          rw [if_pos (by rfl)]
          refine wp_store_row 25 _ _ rfl (w.heap.size + 2) _ rfl rfl 25 _ BX2.out sizePage rfl (by simp [Value.oneCell']) ?_
          refine hK.out _ _ ⟨cells5 (row_far _ (row_far _ X6'.out (by omega)) (by omega)), cells5 (row_far _ (row_far _ X7'.out (by omega)) (by omega))⟩ (fun hHeld => ?_)
          clear hK K
          try simp only [Act.put, List.getElem_toArray, List.getElem_cons_zero, List.getElem_cons_succ, List.setIfInBounds_toArray, List.set_cons_zero, List.set_cons_succ]
          refine wpAnyH_take (i := 5) (v := ?vac5) rfl (by kernel_rfl) (by kernel_rfl) (by kernel_rfl) (fun _ _ _ h => h) (Or.inl ⟨by rfl, ?hyc5⟩) (by assumption) ?rac5
          case hyc5 => (intro wq hSw; (try dsimp only at hSw); obtain ⟨⟨e0, e1, e2, e3, e4⟩, g0, g1, g2, g3, g4⟩ := hSw; go_simp <;> with_reducible rfl)
          try simp only [Act.put, List.getElem_toArray, List.getElem_cons_zero, List.getElem_cons_succ, List.setIfInBounds_toArray, List.set_cons_zero, List.set_cons_succ]
          refine wpAnyH_take (i := 6) (v := ?vac6) rfl (by kernel_rfl) (by kernel_rfl) (by kernel_rfl) (fun _ _ _ h => h) (Or.inl ⟨by rfl, ?hyc6⟩) (by assumption) ?rac6
          case hyc6 => (intro wq hSw; (try dsimp only at hSw); obtain ⟨⟨e0, e1, e2, e3, e4⟩, g0, g1, g2, g3, g4⟩ := hSw; go_simp <;> with_reducible rfl)
          try simp only [Act.put, List.getElem_toArray, List.getElem_cons_zero, List.getElem_cons_succ, List.setIfInBounds_toArray, List.set_cons_zero, List.set_cons_succ]
          refine wpAnyH_done (by kernel_rfl) ?_ _
          clear hHeld SS6
          go_wp2_with fail
          refine bodyPost_ret (v := .tuple #[.agg _, .agg _, _, _]) (results_cells Try.results28 _ _ (w.heap.size + 1) (w.heap.size + 2) 25 25 _ _ (0, 0) (0, 0) _ rfl BY1.out rfl BY2.out Try.underlying25 rfl sizePage sizePage) rfl ?_
          have hv := (HH6.out.keep (dr2 w7)).pre B3.out
          have h1 := hv.but (but_setRow w7.drew (w.heap.size + 1) #[.int .i64 q1.kind, .int .i64 q1.level, .slice q1.aI q1.items.length q1.cI, .slice q1.aD q1.data.length q1.cD, .int .i64 q1.next]) (fun k hk => ⟨_, _, by subst hk; exact R1'.out, by decide, by decide⟩) (below_row _ hv.b (by omega))
          have h2 := h1.but (but_setRow _ (w.heap.size + 2) #[.int .i64 2, .int .i64 level2, .slice (some ⟨gI, 0, none⟩) 4 cI2, .slice aD2 data2.length cD2, .int .i64 next2]) (fun k hk => ⟨_, _, by subst hk; exact BX2.out, by decide, by decide⟩) (below_row _ h1.b (by omega))
          have o1 := OB.out.but (but_setRow w7 (w.heap.size + 1) #[.int .i64 q1.kind, .int .i64 q1.level, .slice q1.aI q1.items.length q1.cI, .slice q1.aD q1.data.length q1.cD, .int .i64 q1.next]) (fun x hx e => OB.out.nty (show Bx w7 25 _ _ from R1'.out) (by decide) hx e)
          have o2 := o1.but (but_setRow _ (w.heap.size + 2) #[.int .i64 2, .int .i64 level2, .slice (some ⟨gI, 0, none⟩) 4 cI2, .slice aD2 data2.length cD2, .int .i64 next2]) (fun x hx e => o1.nty (show Bx (w7.setRow _ _) 25 _ _ from BX2.out) (by decide) hx e)
          have o3 : Rw ((w7.drew.setRow (w.heap.size + 1) #[.int .i64 q1.kind, .int .i64 q1.level, .slice q1.aI q1.items.length q1.cI, .slice q1.aD q1.data.length q1.cD, .int .i64 q1.next]).setRow (w.heap.size + 2) #[.int .i64 2, .int .i64 level2, .slice (some ⟨gI, 0, none⟩) 4 cI2, .slice aD2 data2.length cD2, .int .i64 next2]) aS cS hkey := o2
          rw [← ZZ.out]
          exact ⟨q1, ⟨2, level2, some ⟨gI, 0, none⟩, cI2, ⟨none, 0, [], hV, hcV, hval, hch, hsz⟩ :: R, aD2, cD2, data2, next2⟩, aS, cS, by simp only [List.length_cons, LR.out]; rfl, h2.p1.pi (by rw [L1.out]; decide), h2.p2.pi (by rw [show (List.length (⟨none, 0, [], hV, hcV, hval, hch, hsz⟩ :: R : List Iv)) = 4 from LR.out]; decide), o3.bs IX.out.bk.1 o3.len_le, rfl, rfl, h2.b⟩
        · have hkb : (kind == 2) = false := by simpa using hk
          have K22 : Hid (q2.kind ≠ 2) := fun e => hk (K2.out.symm.trans e)
          have A3 : Hid (Pg.at ((Pv.pg ⟨kind, level, some ⟨bI, off, none⟩, cI, L, aD, cD, data, next⟩).wi ((L.take 4).map Iv.it)) (((Pv.pg ⟨kind, level, some ⟨bI, off, none⟩, cI, L, aD, cD, data, next⟩).wi ((L.take 4).map Iv.it)).items.length - 1) = (L.getD 3 Iv.zero).it) := by
            show ((L.take 4).map Iv.it).getD (((L.take 4).map Iv.it).length - 1) It.zero = _
            rw [List.length_map, List.length_take, HM.out]
            show ((L.take 4).map Iv.it).getD 3 It.zero = _
            rw [it_getD]
            simp [List.getElem?_take]
          have A4 : Hid (Pg.at ((Pv.pg ⟨kind, level, some ⟨bI, off, none⟩, cI, L, aD, cD, data, next⟩).wi ((L.drop 4).map Iv.it)) 0 = (L.getD 4 Iv.zero).it) := by
            show ((L.drop 4).map Iv.it).getD 0 It.zero = _
            rw [it_getD]
            simp
          have ZL : Hid (Z = if (between (L.getD 3 Iv.zero).key (L.getD 4 Iv.zero).key).2 = true then ⟨q1.pg, q2.pg, (between (L.getD 3 Iv.zero).key (L.getD 4 Iv.zero).key).1, true⟩ else Hv.none) := by
            show _ = _
            rw [← HZ.out]
            unfold prt
            rw [if_neg (show ¬ (Pg.wi (Pv.pg ⟨kind, level, some ⟨bI, off, none⟩, cI, L, aD, cD, data, next⟩) ((L.drop 4).map Iv.it)).kind = 2 from hk), A3.out, A4.out, E1.out, E2.out]
            rfl
          have I3 := hide ((JLL.out.1 _ (getD_memR (r := 3) (by rw [HM.out]; decide))).keep BW.out)
          have I4 := hide ((JLL.out.1 _ (getD_memR (r := 4) (by rw [HM.out]; decide))).keep BW.out)
          clear hk A3 A4 HZ ZZ
          have EB := hide fun (W : World) (hb : Below wc.heap.size wc W) => eBetween_own W (L.getD 3 Iv.zero).aK (L.getD 4 Iv.zero).aK (L.getD 3 Iv.zero).key.length (L.getD 3 Iv.zero).cK (L.getD 4 Iv.zero).key.length (L.getD 4 Iv.zero).cK _ _ (I3.out.bk.keep hb) (I4.out.bk.keep hb) rfl rfl
          have r3 := hide fun (W : World) (hb : Below wc.heap.size wc W) => RG3.out W (bt BW.out hb)
          have r4 := hide fun (W : World) (hb : Below wc.heap.size wc W) => RG4.out W (bt BW.out hb)
          clear RG3 RG4 I3 I4 JLL SLL
          generalize L.getD 3 Iv.zero = v3 at *
          generalize L.getD 4 Iv.zero = v4 at *
          obtain ⟨tK, tcK, tkey, tV, tcV, tval, tch, tsz⟩ := v3
          obtain ⟨hK, hcK, hkey, hV, hcV, hval, hch, hsz⟩ := v4
          simp only at EB r3 r4 ZL
          have SS9 := hide fun (W : World) (hb : Below wc.heap.size wc W) => (show W.cell? ⟨w.heap.size, 2, none⟩ = some (.slice (some ⟨bI, off, none⟩) 8 cI) ∧ W.cell? ⟨bI, off + 12, none⟩ = some (.slice tK tkey.length tcK) ∧ W.cell? ⟨bI, off + 16, none⟩ = some (.slice hK hkey.length hcK) from ⟨(cells5 (blk_keep BP'.out hb)).2.2.1, r3.out W hb, r4.out W hb⟩)
          have D9 := hide (dr2 wc)
          cases hbt : (between tkey hkey).2 with
          | true =>
            rw [hbt] at EB ZL
            rw [if_pos rfl] at ZL
            clear hbt r3 r4
            go_wp2_with fail
            refine wp_region_held_drew (S := fun W => W.cell? ⟨w.heap.size, 2, none⟩ = some (.slice (some ⟨bI, off, none⟩) 8 cI) ∧ W.cell? ⟨bI, off + 12, none⟩ = some (.slice tK tkey.length tcK) ∧ W.cell? ⟨bI, off + 16, none⟩ = some (.slice hK hkey.length hcK)) (by kernel_rfl) (SS9.out _ D9.out) (fun hHeld => ?_)
            refine wpAnyH_take (i := 0) (v := ?vad0) rfl (by kernel_rfl) (by kernel_rfl) (by kernel_rfl) (fun _ _ _ h => h) (Or.inl ⟨by rfl, ?hyd0⟩) (by assumption) ?rad0
            case hyd0 => (intro wq hSw; (try dsimp only at hSw); obtain ⟨e0, e1, e2⟩ := hSw; go_simp <;> with_reducible rfl)
            try simp only [Act.put, List.getElem_toArray, List.getElem_cons_zero, List.setIfInBounds_toArray, List.set_cons_zero, List.set_cons_succ]
            refine wpAnyH_take (i := 1) (v := ?vad1) rfl (by kernel_rfl) (by kernel_rfl) (by kernel_rfl) (fun _ _ _ h => h) (Or.inl ⟨by rfl, ?hyd1⟩) (by assumption) ?rad1
            case hyd1 => (intro wq hSw; (try dsimp only at hSw); obtain ⟨e0, e1, e2⟩ := hSw; go_simp <;> with_reducible rfl)
            try simp only [Act.put, List.getElem_toArray, List.getElem_cons_zero, List.getElem_cons_succ, List.setIfInBounds_toArray, List.set_cons_zero, List.set_cons_succ]
            refine wpAnyH_take (i := 2) (v := ?vad2) rfl (by kernel_rfl) (by kernel_rfl) (by kernel_rfl) (fun _ _ _ h => h) (Or.inl ⟨by rfl, ?hyd2⟩) (by assumption) ?rad2
            case hyd2 => (intro wq hSw; (try dsimp only at hSw); obtain ⟨e0, e1, e2⟩ := hSw; go_simp <;> with_reducible rfl)
            try simp only [Act.put, List.getElem_toArray, List.getElem_cons_zero, List.getElem_cons_succ, List.setIfInBounds_toArray, List.set_cons_zero, List.set_cons_succ]
            refine wpAnyH_take (i := 3) (v := ?vad3) rfl (by kernel_rfl) (by kernel_rfl) (by kernel_rfl) (fun _ _ _ h => h) (Or.inl ⟨by rfl, ?hyd3⟩) (by assumption) ?rad3
            case hyd3 => (intro wq hSw; (try dsimp only at hSw); obtain ⟨e0, e1, e2⟩ := hSw; go_simp <;> with_reducible rfl)
            try simp only [Act.put, List.getElem_toArray, List.getElem_cons_zero, List.getElem_cons_succ, List.setIfInBounds_toArray, List.set_cons_zero, List.set_cons_succ]
            refine wpAnyH_take (i := 4) (v := ?vad4) rfl (by kernel_rfl) (by kernel_rfl) (by kernel_rfl) (fun _ _ _ h => h) (Or.inl ⟨by rfl, ?hyd4⟩) (by assumption) ?rad4
            case hyd4 => (intro wq hSw; (try dsimp only at hSw); obtain ⟨e0, e1, e2⟩ := hSw; go_simp <;> with_reducible rfl)
            try simp only [Act.put, List.getElem_toArray, List.getElem_cons_zero, List.getElem_cons_succ, List.setIfInBounds_toArray, List.set_cons_zero, List.set_cons_succ]
            refine wpAnyH_take (i := 5) (v := ?vad5) rfl (by kernel_rfl) (by kernel_rfl) (by kernel_rfl) (fun _ _ _ h => h) (Or.inl ⟨by rfl, ?hyd5⟩) (by assumption) ?rad5
            case hyd5 => (intro wq hSw; (try dsimp only at hSw); obtain ⟨e0, e1, e2⟩ := hSw; go_simp <;> with_reducible rfl)
            try simp only [Act.put, List.getElem_toArray, List.getElem_cons_zero, List.getElem_cons_succ, List.setIfInBounds_toArray, List.set_cons_zero, List.set_cons_succ]
            refine wpAnyH_take (i := 6) (v := ?vad6) rfl (by kernel_rfl) (by kernel_rfl) (by kernel_rfl) (fun _ _ _ h => h) (Or.inl ⟨by rfl, ?hyd6⟩) (by assumption) ?rad6
            case hyd6 => (intro wq hSw; (try dsimp only at hSw); obtain ⟨e0, e1, e2⟩ := hSw; go_simp <;> with_reducible rfl)
            try simp only [Act.put, List.getElem_toArray, List.getElem_cons_zero, List.getElem_cons_succ, List.setIfInBounds_toArray, List.set_cons_zero, List.set_cons_succ]
            refine wpAnyH_take (i := 7) (v := ?vad7) rfl (by kernel_rfl) (by kernel_rfl) (by kernel_rfl) (fun _ _ _ h => h) (Or.inl ⟨by rfl, ?hyd7⟩) (by assumption) ?rad7
            case hyd7 => (intro wq hSw; (try dsimp only at hSw); obtain ⟨e0, e1, e2⟩ := hSw; go_simp <;> with_reducible rfl)
            try simp only [Act.put, List.getElem_toArray, List.getElem_cons_zero, List.getElem_cons_succ, List.setIfInBounds_toArray, List.set_cons_zero, List.set_cons_succ]
            refine wpAnyH_take (i := 8) (v := ?vad8) rfl (by kernel_rfl) (by kernel_rfl) (by kernel_rfl) (fun _ _ _ h => h) (Or.inl ⟨by rfl, ?hyd8⟩) (by assumption) ?rad8
            case hyd8 => (intro wq hSw; (try dsimp only at hSw); obtain ⟨e0, e1, e2⟩ := hSw; go_simp <;> with_reducible rfl)
            try simp only [Act.put, List.getElem_toArray, List.getElem_cons_zero, List.getElem_cons_succ, List.setIfInBounds_toArray, List.set_cons_zero, List.set_cons_succ]
            refine wpAnyH_take (i := 9) (v := ?vad9) rfl (by kernel_rfl) (by kernel_rfl) (by kernel_rfl) (fun _ _ _ h => h) (Or.inl ⟨by rfl, ?hyd9⟩) (by assumption) ?rad9
            case hyd9 => (intro wq hSw; (try dsimp only at hSw); obtain ⟨e0, e1, e2⟩ := hSw; go_simp <;> with_reducible rfl)
            try simp only [Act.put, List.getElem_toArray, List.getElem_cons_zero, List.getElem_cons_succ, List.setIfInBounds_toArray, List.set_cons_zero, List.set_cons_succ]
            refine wpAnyH_ready (rs := [10]) (by kernel_rfl) (by simp) ?_
            refine AllReadyH.cons rfl (fun K hK => ?_) AllReadyH.nil
            go_simp
            refine (EB.out _ D9.out).mono ?_
            rintro _ w6 ⟨aS, cS, rfl, hB, hb, -⟩
            have BS := hide hB
            have B6 := hide (bt D9.out hb)
            clear hB hb
            go_wp2_with fail
            refine hK.out _ _ (SS9.out _ B6.out) (fun hHeld => ?_)
            clear hK K
            try simp only [Act.put, List.getElem_toArray, List.getElem_cons_zero, List.getElem_cons_succ, List.setIfInBounds_toArray, List.set_cons_zero, List.set_cons_succ]
            refine wpAnyH_take (i := 11) (v := ?vad11) rfl (by kernel_rfl) (by kernel_rfl) (by kernel_rfl) (fun _ _ _ h => h) (Or.inl ⟨by rfl, ?hyd11⟩) (by assumption) ?rad11
            case hyd11 => (intro wq hSw; (try dsimp only at hSw); obtain ⟨e0, e1, e2⟩ := hSw; go_simp <;> with_reducible rfl)
            try simp only [Act.put, List.getElem_toArray, List.getElem_cons_zero, List.getElem_cons_succ, List.setIfInBounds_toArray, List.set_cons_zero, List.set_cons_succ]
            refine wpAnyH_take (i := 12) (v := ?vad12) rfl (by kernel_rfl) (by kernel_rfl) (by kernel_rfl) (fun _ _ _ h => h) (Or.inl ⟨by rfl, ?hyd12⟩) (by assumption) ?rad12
            case hyd12 => (intro wq hSw; (try dsimp only at hSw); obtain ⟨e0, e1, e2⟩ := hSw; go_simp <;> with_reducible rfl)
            try simp only [Act.put, List.getElem_toArray, List.getElem_cons_zero, List.getElem_cons_succ, List.setIfInBounds_toArray, List.set_cons_zero, List.set_cons_succ]
            refine wpAnyH_take (i := 13) (v := ?vad13) rfl (by kernel_rfl) (by kernel_rfl) (by kernel_rfl) (fun _ _ _ h => h) (Or.inl ⟨by rfl, ?hyd13⟩) (by assumption) ?rad13
            case hyd13 => (intro wq hSw; (try dsimp only at hSw); obtain ⟨e0, e1, e2⟩ := hSw; go_simp <;> with_reducible rfl)
            try simp only [Act.put, List.getElem_toArray, List.getElem_cons_zero, List.getElem_cons_succ, List.setIfInBounds_toArray, List.set_cons_zero, List.set_cons_succ]
            refine wpAnyH_take (i := 14) (v := ?vad14) rfl (by kernel_rfl) (by kernel_rfl) (by kernel_rfl) (fun _ _ _ h => h) (Or.inl ⟨by rfl, ?hyd14⟩) (by assumption) ?rad14
            case hyd14 => (intro wq hSw; (try dsimp only at hSw); obtain ⟨e0, e1, e2⟩ := hSw; go_simp <;> with_reducible rfl)
            try simp only [Act.put, List.getElem_toArray, List.getElem_cons_zero, List.getElem_cons_succ, List.setIfInBounds_toArray, List.set_cons_zero, List.set_cons_succ]
            refine wpAnyH_take (i := 15) (v := ?vad15) rfl (by kernel_rfl) (by kernel_rfl) (by kernel_rfl) (fun _ _ _ h => h) (Or.inl ⟨by rfl, ?hyd15⟩) (by assumption) ?rad15
            case hyd15 => (intro wq hSw; (try dsimp only at hSw); obtain ⟨e0, e1, e2⟩ := hSw; go_simp <;> with_reducible rfl)
            try simp only [Act.put, List.getElem_toArray, List.getElem_cons_zero, List.getElem_cons_succ, List.setIfInBounds_toArray, List.set_cons_zero, List.set_cons_succ]
            refine wpAnyH_done (by kernel_rfl) ?_ _
            clear hHeld SS9 EB
            have X6' := hide (blk_keep X6.out B6.out)
            have X7' := hide (blk_keep X7.out B6.out)
            have R1' := hide (blk_keep BR1'.out B6.out)
            have R2' := hide (blk_keep BR2'.out B6.out)
            go_wp2_with fail
            simp only [Pv.cs] at X6' X7'
            have SS6 := hide (show (fun W : World => (W.cell? ⟨g6, 0, none⟩ = some (.int .i64 q1.kind) ∧ W.cell? ⟨g6, 1, none⟩ = some (.int .i64 q1.level) ∧ W.cell? ⟨g6, 2, none⟩ = some (.slice q1.aI q1.items.length q1.cI) ∧ W.cell? ⟨g6, 3, none⟩ = some (.slice q1.aD q1.data.length q1.cD) ∧ W.cell? ⟨g6, 4, none⟩ = some (.int .i64 q1.next)) ∧ (W.cell? ⟨g7, 0, none⟩ = some (.int .i64 q2.kind) ∧ W.cell? ⟨g7, 1, none⟩ = some (.int .i64 q2.level) ∧ W.cell? ⟨g7, 2, none⟩ = some (.slice q2.aI q2.items.length q2.cI) ∧ W.cell? ⟨g7, 3, none⟩ = some (.slice q2.aD q2.data.length q2.cD) ∧ W.cell? ⟨g7, 4, none⟩ = some (.int .i64 q2.next))) w6.drew from ⟨cells5 X6'.out, cells5 X7'.out⟩)
            refine wp_region_held_drew (S := fun W => (W.cell? ⟨g6, 0, none⟩ = some (.int .i64 q1.kind) ∧ W.cell? ⟨g6, 1, none⟩ = some (.int .i64 q1.level) ∧ W.cell? ⟨g6, 2, none⟩ = some (.slice q1.aI q1.items.length q1.cI) ∧ W.cell? ⟨g6, 3, none⟩ = some (.slice q1.aD q1.data.length q1.cD) ∧ W.cell? ⟨g6, 4, none⟩ = some (.int .i64 q1.next)) ∧ (W.cell? ⟨g7, 0, none⟩ = some (.int .i64 q2.kind) ∧ W.cell? ⟨g7, 1, none⟩ = some (.int .i64 q2.level) ∧ W.cell? ⟨g7, 2, none⟩ = some (.slice q2.aI q2.items.length q2.cI) ∧ W.cell? ⟨g7, 3, none⟩ = some (.slice q2.aD q2.data.length q2.cD) ∧ W.cell? ⟨g7, 4, none⟩ = some (.int .i64 q2.next))) (by kernel_rfl) (SS6.out) (fun hHeld => ?_)
            refine wpAnyH_take (i := 0) (v := ?vaf0) rfl (by kernel_rfl) (by kernel_rfl) (by kernel_rfl) (fun _ _ _ h => h) (Or.inl ⟨by rfl, ?hyf0⟩) (by assumption) ?raf0
            case hyf0 => (intro wq hSw; (try dsimp only at hSw); obtain ⟨⟨e0, e1, e2, e3, e4⟩, g0, g1, g2, g3, g4⟩ := hSw; go_simp <;> with_reducible rfl)
            try simp only [Act.put, List.getElem_toArray, List.getElem_cons_zero, List.setIfInBounds_toArray, List.set_cons_zero, List.set_cons_succ]
            refine wpAnyH_take (i := 1) (v := ?vaf1) rfl (by kernel_rfl) (by kernel_rfl) (by kernel_rfl) (fun _ _ _ h => h) (Or.inl ⟨by rfl, ?hyf1⟩) (by assumption) ?raf1
            case hyf1 => (intro wq hSw; (try dsimp only at hSw); obtain ⟨⟨e0, e1, e2, e3, e4⟩, g0, g1, g2, g3, g4⟩ := hSw; go_simp <;> with_reducible rfl)
            try simp only [Act.put, List.getElem_toArray, List.getElem_cons_zero, List.getElem_cons_succ, List.setIfInBounds_toArray, List.set_cons_zero, List.set_cons_succ]
            refine wpAnyH_take (i := 2) (v := ?vaf2) rfl (by kernel_rfl) (by kernel_rfl) (by kernel_rfl) (fun _ _ _ h => h) (Or.inl ⟨by rfl, ?hyf2⟩) (by assumption) ?raf2
            case hyf2 => (intro wq hSw; (try dsimp only at hSw); obtain ⟨⟨e0, e1, e2, e3, e4⟩, g0, g1, g2, g3, g4⟩ := hSw; go_simp <;> with_reducible rfl)
            try simp only [Act.put, List.getElem_toArray, List.getElem_cons_zero, List.getElem_cons_succ, List.setIfInBounds_toArray, List.set_cons_zero, List.set_cons_succ]
            have BX1 := hide (setRow_heap w6.drew (w.heap.size + 1) _ #[.int .i64 q1.kind, .int .i64 q1.level, .slice q1.aI q1.items.length q1.cI, .slice q1.aD q1.data.length q1.cD, .int .i64 q1.next] _ _ R1'.out)
            have BX2 := hide (row_far (W := w6.drew) (g := w.heap.size + 1) #[.int .i64 q1.kind, .int .i64 q1.level, .slice q1.aI q1.items.length q1.cI, .slice q1.aD q1.data.length q1.cD, .int .i64 q1.next] R2'.out (by omega))
            refine wpAnyH_ready (rs := [3]) (by kernel_rfl) (by simp) ?_
            refine AllReadyH.cons rfl (fun K hK => ?_) AllReadyH.nil
            rw [if_pos (by rfl)]
            refine wp_store_row 25 _ _ rfl (w.heap.size + 1) _ rfl rfl 25 _ R1'.out sizePage rfl (by simp [Value.oneCell']) ?_
            refine hK.out _ _ ⟨cells5 (row_far _ X6'.out (by omega)), cells5 (row_far _ X7'.out (by omega))⟩ (fun hHeld => ?_)
            clear hK K
            try simp only [Act.put, List.getElem_toArray, List.getElem_cons_zero, List.getElem_cons_succ, List.setIfInBounds_toArray, List.set_cons_zero, List.set_cons_succ]
            have BY1 := hide (row_far (g := w.heap.size + 2) #[.int .i64 q2.kind, .int .i64 q2.level, .slice q2.aI q2.items.length q2.cI, .slice q2.aD q2.data.length q2.cD, .int .i64 q2.next] BX1.out (by omega))
            have BY2 := hide (setRow_heap _ (w.heap.size + 2) _ #[.int .i64 q2.kind, .int .i64 q2.level, .slice q2.aI q2.items.length q2.cI, .slice q2.aD q2.data.length q2.cD, .int .i64 q2.next] _ _ BX2.out)
            refine wpAnyH_ready (rs := [4]) (by kernel_rfl) (by simp) ?_
            refine AllReadyH.cons rfl (fun K hK => ?_) AllReadyH.nil
            rw [if_pos (by rfl)]
            refine wp_store_row 25 _ _ rfl (w.heap.size + 2) _ rfl rfl 25 _ BX2.out sizePage rfl (by simp [Value.oneCell']) ?_
            refine hK.out _ _ ⟨cells5 (row_far _ (row_far _ X6'.out (by omega)) (by omega)), cells5 (row_far _ (row_far _ X7'.out (by omega)) (by omega))⟩ (fun hHeld => ?_)
            clear hK K
            try simp only [Act.put, List.getElem_toArray, List.getElem_cons_zero, List.getElem_cons_succ, List.setIfInBounds_toArray, List.set_cons_zero, List.set_cons_succ]
            refine wpAnyH_take (i := 5) (v := ?vaf5) rfl (by kernel_rfl) (by kernel_rfl) (by kernel_rfl) (fun _ _ _ h => h) (Or.inl ⟨by rfl, ?hyf5⟩) (by assumption) ?raf5
            case hyf5 => (intro wq hSw; (try dsimp only at hSw); obtain ⟨⟨e0, e1, e2, e3, e4⟩, g0, g1, g2, g3, g4⟩ := hSw; go_simp <;> with_reducible rfl)
            try simp only [Act.put, List.getElem_toArray, List.getElem_cons_zero, List.getElem_cons_succ, List.setIfInBounds_toArray, List.set_cons_zero, List.set_cons_succ]
            refine wpAnyH_take (i := 6) (v := ?vaf6) rfl (by kernel_rfl) (by kernel_rfl) (by kernel_rfl) (fun _ _ _ h => h) (Or.inl ⟨by rfl, ?hyf6⟩) (by assumption) ?raf6
            case hyf6 => (intro wq hSw; (try dsimp only at hSw); obtain ⟨⟨e0, e1, e2, e3, e4⟩, g0, g1, g2, g3, g4⟩ := hSw; go_simp <;> with_reducible rfl)
            try simp only [Act.put, List.getElem_toArray, List.getElem_cons_zero, List.getElem_cons_succ, List.setIfInBounds_toArray, List.set_cons_zero, List.set_cons_succ]
            refine wpAnyH_done (by kernel_rfl) ?_ _
            clear hHeld SS6
            go_wp2_with fail
            refine bodyPost_ret (v := .tuple #[.agg _, .agg _, _, _]) (results_cells Try.results28 _ _ (w.heap.size + 1) (w.heap.size + 2) 25 25 _ _ (0, 0) (0, 0) _ rfl BY1.out rfl BY2.out Try.underlying25 rfl sizePage sizePage) rfl ?_
            have hv := ((HH.out.keep B6.out).keep (dr2 w6)).pre B3.out
            have h1 := hv.but (but_setRow w6.drew (w.heap.size + 1) #[.int .i64 q1.kind, .int .i64 q1.level, .slice q1.aI q1.items.length q1.cI, .slice q1.aD q1.data.length q1.cD, .int .i64 q1.next]) (fun k hk => ⟨_, _, by subst hk; exact R1'.out, by decide, by decide⟩) (below_row _ hv.b (by omega))
            have h2 := h1.but (but_setRow _ (w.heap.size + 2) #[.int .i64 q2.kind, .int .i64 q2.level, .slice q2.aI q2.items.length q2.cI, .slice q2.aD q2.data.length q2.cD, .int .i64 q2.next]) (fun k hk => ⟨_, _, by subst hk; exact BX2.out, by decide, by decide⟩) (below_row _ h1.b (by omega))
            have bb : Bs ((w6.drew.setRow (w.heap.size + 1) #[.int .i64 q1.kind, .int .i64 q1.level, .slice q1.aI q1.items.length q1.cI, .slice q1.aD q1.data.length q1.cD, .int .i64 q1.next]).setRow (w.heap.size + 2) #[.int .i64 q2.kind, .int .i64 q2.level, .slice q2.aI q2.items.length q2.cI, .slice q2.aD q2.data.length q2.cD, .int .i64 q2.next]) aS (between tkey hkey).1 := by
              refine ⟨BS.out.1, BS.out.2.1, BS.out.2.2.imp id (fun ⟨b, o, e, hc⟩ => ⟨b, o, e, fun i hi => ?_⟩)⟩
              have k := hc i hi
              have hne : ∀ {g : Nat} {c : Array Value}, w6.heap[g]? = some (.cells c 25 (0, 0)) → c = #[.int .i64 0, .int .i64 0, .slice none 0 0, .slice none 0 0, .int .i64 0] → b ≠ g := fun hg ec e => by
                subst e
                rw [cell_of_row _ _ _ _ _ _ hg, ec] at k
                have hlt := (Array.getElem?_eq_some_iff.1 k).1
                simp only [List.size_toArray, List.length_cons, List.length_nil] at hlt
                generalize o + i = oi at k hlt
                match oi, hlt with
                | 0, _ => simp at k
                | 1, _ => simp at k
                | 2, _ => simp at k
                | 3, _ => simp at k
                | 4, _ => simp at k
              have n1 := hne R1'.out rfl
              have n2 := hne R2'.out rfl
              have kd : w6.drew.cell? ⟨b, o + i, none⟩ = _ := k
              have k2 : (w6.drew.setRow (w.heap.size + 1) #[.int .i64 q1.kind, .int .i64 q1.level, .slice q1.aI q1.items.length q1.cI, .slice q1.aD q1.data.length q1.cD, .int .i64 q1.next]).cell? ⟨b, o + i, none⟩ = _ := (but_cell (but_setRow w6.drew _ _) n1 (block_lt_of_cell kd)).trans kd
              exact (but_cell (but_setRow _ _ _) n2 (block_lt_of_cell k2)).trans k2
            rw [ZL.out]
            exact ⟨q1, q2, aS, cS, rfl, h2.p1.pi (by rw [L1.out]; decide), h2.p2.pi (by rw [L2.out]; decide), bb, rfl, rfl, h2.b⟩
          | false =>
            rw [hbt] at EB ZL
            rw [if_neg (by decide)] at ZL
            clear hbt r3 r4
            go_wp2_with fail
            refine wp_region_held_drew (S := fun W => W.cell? ⟨w.heap.size, 2, none⟩ = some (.slice (some ⟨bI, off, none⟩) 8 cI) ∧ W.cell? ⟨bI, off + 12, none⟩ = some (.slice tK tkey.length tcK) ∧ W.cell? ⟨bI, off + 16, none⟩ = some (.slice hK hkey.length hcK)) (by kernel_rfl) (SS9.out _ D9.out) (fun hHeld => ?_)
            refine wpAnyH_take (i := 0) (v := ?vae0) rfl (by kernel_rfl) (by kernel_rfl) (by kernel_rfl) (fun _ _ _ h => h) (Or.inl ⟨by rfl, ?hye0⟩) (by assumption) ?rae0
            case hye0 => (intro wq hSw; (try dsimp only at hSw); obtain ⟨e0, e1, e2⟩ := hSw; go_simp <;> with_reducible rfl)
            try simp only [Act.put, List.getElem_toArray, List.getElem_cons_zero, List.setIfInBounds_toArray, List.set_cons_zero, List.set_cons_succ]
            refine wpAnyH_take (i := 1) (v := ?vae1) rfl (by kernel_rfl) (by kernel_rfl) (by kernel_rfl) (fun _ _ _ h => h) (Or.inl ⟨by rfl, ?hye1⟩) (by assumption) ?rae1
            case hye1 => (intro wq hSw; (try dsimp only at hSw); obtain ⟨e0, e1, e2⟩ := hSw; go_simp <;> with_reducible rfl)
            try simp only [Act.put, List.getElem_toArray, List.getElem_cons_zero, List.getElem_cons_succ, List.setIfInBounds_toArray, List.set_cons_zero, List.set_cons_succ]
            refine wpAnyH_take (i := 2) (v := ?vae2) rfl (by kernel_rfl) (by kernel_rfl) (by kernel_rfl) (fun _ _ _ h => h) (Or.inl ⟨by rfl, ?hye2⟩) (by assumption) ?rae2
            case hye2 => (intro wq hSw; (try dsimp only at hSw); obtain ⟨e0, e1, e2⟩ := hSw; go_simp <;> with_reducible rfl)
            try simp only [Act.put, List.getElem_toArray, List.getElem_cons_zero, List.getElem_cons_succ, List.setIfInBounds_toArray, List.set_cons_zero, List.set_cons_succ]
            refine wpAnyH_take (i := 3) (v := ?vae3) rfl (by kernel_rfl) (by kernel_rfl) (by kernel_rfl) (fun _ _ _ h => h) (Or.inl ⟨by rfl, ?hye3⟩) (by assumption) ?rae3
            case hye3 => (intro wq hSw; (try dsimp only at hSw); obtain ⟨e0, e1, e2⟩ := hSw; go_simp <;> with_reducible rfl)
            try simp only [Act.put, List.getElem_toArray, List.getElem_cons_zero, List.getElem_cons_succ, List.setIfInBounds_toArray, List.set_cons_zero, List.set_cons_succ]
            refine wpAnyH_take (i := 4) (v := ?vae4) rfl (by kernel_rfl) (by kernel_rfl) (by kernel_rfl) (fun _ _ _ h => h) (Or.inl ⟨by rfl, ?hye4⟩) (by assumption) ?rae4
            case hye4 => (intro wq hSw; (try dsimp only at hSw); obtain ⟨e0, e1, e2⟩ := hSw; go_simp <;> with_reducible rfl)
            try simp only [Act.put, List.getElem_toArray, List.getElem_cons_zero, List.getElem_cons_succ, List.setIfInBounds_toArray, List.set_cons_zero, List.set_cons_succ]
            refine wpAnyH_take (i := 5) (v := ?vae5) rfl (by kernel_rfl) (by kernel_rfl) (by kernel_rfl) (fun _ _ _ h => h) (Or.inl ⟨by rfl, ?hye5⟩) (by assumption) ?rae5
            case hye5 => (intro wq hSw; (try dsimp only at hSw); obtain ⟨e0, e1, e2⟩ := hSw; go_simp <;> with_reducible rfl)
            try simp only [Act.put, List.getElem_toArray, List.getElem_cons_zero, List.getElem_cons_succ, List.setIfInBounds_toArray, List.set_cons_zero, List.set_cons_succ]
            refine wpAnyH_take (i := 6) (v := ?vae6) rfl (by kernel_rfl) (by kernel_rfl) (by kernel_rfl) (fun _ _ _ h => h) (Or.inl ⟨by rfl, ?hye6⟩) (by assumption) ?rae6
            case hye6 => (intro wq hSw; (try dsimp only at hSw); obtain ⟨e0, e1, e2⟩ := hSw; go_simp <;> with_reducible rfl)
            try simp only [Act.put, List.getElem_toArray, List.getElem_cons_zero, List.getElem_cons_succ, List.setIfInBounds_toArray, List.set_cons_zero, List.set_cons_succ]
            refine wpAnyH_take (i := 7) (v := ?vae7) rfl (by kernel_rfl) (by kernel_rfl) (by kernel_rfl) (fun _ _ _ h => h) (Or.inl ⟨by rfl, ?hye7⟩) (by assumption) ?rae7
            case hye7 => (intro wq hSw; (try dsimp only at hSw); obtain ⟨e0, e1, e2⟩ := hSw; go_simp <;> with_reducible rfl)
            try simp only [Act.put, List.getElem_toArray, List.getElem_cons_zero, List.getElem_cons_succ, List.setIfInBounds_toArray, List.set_cons_zero, List.set_cons_succ]
            refine wpAnyH_take (i := 8) (v := ?vae8) rfl (by kernel_rfl) (by kernel_rfl) (by kernel_rfl) (fun _ _ _ h => h) (Or.inl ⟨by rfl, ?hye8⟩) (by assumption) ?rae8
            case hye8 => (intro wq hSw; (try dsimp only at hSw); obtain ⟨e0, e1, e2⟩ := hSw; go_simp <;> with_reducible rfl)
            try simp only [Act.put, List.getElem_toArray, List.getElem_cons_zero, List.getElem_cons_succ, List.setIfInBounds_toArray, List.set_cons_zero, List.set_cons_succ]
            refine wpAnyH_take (i := 9) (v := ?vae9) rfl (by kernel_rfl) (by kernel_rfl) (by kernel_rfl) (fun _ _ _ h => h) (Or.inl ⟨by rfl, ?hye9⟩) (by assumption) ?rae9
            case hye9 => (intro wq hSw; (try dsimp only at hSw); obtain ⟨e0, e1, e2⟩ := hSw; go_simp <;> with_reducible rfl)
            try simp only [Act.put, List.getElem_toArray, List.getElem_cons_zero, List.getElem_cons_succ, List.setIfInBounds_toArray, List.set_cons_zero, List.set_cons_succ]
            refine wpAnyH_ready (rs := [10]) (by kernel_rfl) (by simp) ?_
            refine AllReadyH.cons rfl (fun K hK => ?_) AllReadyH.nil
            go_simp
            refine (EB.out _ D9.out).mono ?_
            rintro _ w6 ⟨aS, cS, rfl, hB, hb, -⟩
            have BS := hide hB
            have B6 := hide (bt D9.out hb)
            clear hB hb
            go_wp2_with fail
            refine hK.out _ _ (SS9.out _ B6.out) (fun hHeld => ?_)
            clear hK K
            try simp only [Act.put, List.getElem_toArray, List.getElem_cons_zero, List.getElem_cons_succ, List.setIfInBounds_toArray, List.set_cons_zero, List.set_cons_succ]
            refine wpAnyH_take (i := 11) (v := ?vae11) rfl (by kernel_rfl) (by kernel_rfl) (by kernel_rfl) (fun _ _ _ h => h) (Or.inl ⟨by rfl, ?hye11⟩) (by assumption) ?rae11
            case hye11 => (intro wq hSw; (try dsimp only at hSw); obtain ⟨e0, e1, e2⟩ := hSw; go_simp <;> with_reducible rfl)
            try simp only [Act.put, List.getElem_toArray, List.getElem_cons_zero, List.getElem_cons_succ, List.setIfInBounds_toArray, List.set_cons_zero, List.set_cons_succ]
            refine wpAnyH_take (i := 12) (v := ?vae12) rfl (by kernel_rfl) (by kernel_rfl) (by kernel_rfl) (fun _ _ _ h => h) (Or.inl ⟨by rfl, ?hye12⟩) (by assumption) ?rae12
            case hye12 => (intro wq hSw; (try dsimp only at hSw); obtain ⟨e0, e1, e2⟩ := hSw; go_simp <;> with_reducible rfl)
            try simp only [Act.put, List.getElem_toArray, List.getElem_cons_zero, List.getElem_cons_succ, List.setIfInBounds_toArray, List.set_cons_zero, List.set_cons_succ]
            refine wpAnyH_take (i := 13) (v := ?vae13) rfl (by kernel_rfl) (by kernel_rfl) (by kernel_rfl) (fun _ _ _ h => h) (Or.inl ⟨by rfl, ?hye13⟩) (by assumption) ?rae13
            case hye13 => (intro wq hSw; (try dsimp only at hSw); obtain ⟨e0, e1, e2⟩ := hSw; go_simp <;> with_reducible rfl)
            try simp only [Act.put, List.getElem_toArray, List.getElem_cons_zero, List.getElem_cons_succ, List.setIfInBounds_toArray, List.set_cons_zero, List.set_cons_succ]
            refine wpAnyH_take (i := 14) (v := ?vae14) rfl (by kernel_rfl) (by kernel_rfl) (by kernel_rfl) (fun _ _ _ h => h) (Or.inl ⟨by rfl, ?hye14⟩) (by assumption) ?rae14
            case hye14 => (intro wq hSw; (try dsimp only at hSw); obtain ⟨e0, e1, e2⟩ := hSw; go_simp <;> with_reducible rfl)
            try simp only [Act.put, List.getElem_toArray, List.getElem_cons_zero, List.getElem_cons_succ, List.setIfInBounds_toArray, List.set_cons_zero, List.set_cons_succ]
            refine wpAnyH_take (i := 15) (v := ?vae15) rfl (by kernel_rfl) (by kernel_rfl) (by kernel_rfl) (fun _ _ _ h => h) (Or.inl ⟨by rfl, ?hye15⟩) (by assumption) ?rae15
            case hye15 => (intro wq hSw; (try dsimp only at hSw); obtain ⟨e0, e1, e2⟩ := hSw; go_simp <;> with_reducible rfl)
            try simp only [Act.put, List.getElem_toArray, List.getElem_cons_zero, List.getElem_cons_succ, List.setIfInBounds_toArray, List.set_cons_zero, List.set_cons_succ]
            refine wpAnyH_done (by kernel_rfl) ?_ _
            clear hHeld SS9 EB
            have R1' := hide (blk_keep BR1'.out B6.out)
            have R2' := hide (blk_keep BR2'.out B6.out)
            have BV := hide (bt BW.out B6.out)
            have BX1 := hide (setRow_heap w6 (w.heap.size + 1) _ #[.int .i64 0, .int .i64 0, .slice none 0 0, .slice none 0 0, .int .i64 0] _ _ R1'.out)
            have BX2 := hide (row_far (W := w6) (g := w.heap.size + 1) #[.int .i64 0, .int .i64 0, .slice none 0 0, .slice none 0 0, .int .i64 0] R2'.out (by omega))
            have BY1 := hide (row_far (g := w.heap.size + 2) #[.int .i64 0, .int .i64 0, .slice none 0 0, .slice none 0 0, .int .i64 0] BX1.out (by omega))
            have BY2 := hide (setRow_heap _ (w.heap.size + 2) _ #[.int .i64 0, .int .i64 0, .slice none 0 0, .slice none 0 0, .int .i64 0] _ _ BX2.out)
            go_wp2_with (first | (refine wpList_store_row rfl 25 _ _ rfl (w.heap.size + 1) _ rfl rfl 25 _ R1'.out sizePage rfl (by simp [Value.oneCell']) ?_) | (refine wpList_store_row rfl 25 _ _ rfl (w.heap.size + 2) _ rfl rfl 25 _ BX2.out sizePage rfl (by simp [Value.oneCell']) ?_) | fail)
            refine bodyPost_ret (v := .tuple #[.agg _, .agg _, _, _]) (results_cells Try.results28 _ _ (w.heap.size + 1) (w.heap.size + 2) 25 25 _ _ (0, 0) (0, 0) _ rfl BY1.out rfl BY2.out Try.underlying25 rfl sizePage sizePage) rfl ?_
            rw [ZL.out]
            exact ⟨Pv.zero, Pv.zero, none, 0, rfl, Pi.zero _, Pi.zero _, Bs.nil _, rfl, rfl, below_row _ (below_row _ BV.out (by omega)) (by omega)⟩
  · have MZ : Hid (spl (Pv.pg ⟨kind, level, aI, cI, L, aD, cD, data, next⟩) = Hv.none) := by
      show _ = _
      unfold spl
      rw [if_neg (fun h => hq ⟨h.1, by have := h.2; rw [EP.out, List.length_map] at this; exact HM.out.symm.trans this⟩)]
    rw [MZ.out]
    cases hk : mnt kind with
    | false =>
      rw [hk] at ME
      clear hk hq RW
      go_enter Try.func28, Try.ntmps28
      go_wp2_with fail
      refine (ME.out _).mono ?_
      rintro _ w6 ⟨rfl, h4⟩
      have R1' := hide (blk_keep U3.out.2.1 h4)
      have R2' := hide (blk_keep U3.out.2.2.1 h4)
      have BV := hide (bt U3.out.2.2.2 h4)
      clear h4 U3 ME
      have BX1 := hide (setRow_heap w6 (w.heap.size + 1) _ #[.int .i64 0, .int .i64 0, .slice none 0 0, .slice none 0 0, .int .i64 0] _ _ R1'.out)
      have BX2 := hide (row_far (W := w6) (g := w.heap.size + 1) #[.int .i64 0, .int .i64 0, .slice none 0 0, .slice none 0 0, .int .i64 0] R2'.out (by omega))
      have BY1 := hide (row_far (g := w.heap.size + 2) #[.int .i64 0, .int .i64 0, .slice none 0 0, .slice none 0 0, .int .i64 0] BX1.out (by omega))
      have BY2 := hide (setRow_heap _ (w.heap.size + 2) _ #[.int .i64 0, .int .i64 0, .slice none 0 0, .slice none 0 0, .int .i64 0] _ _ BX2.out)
      go_wp2_with (first | (refine wpList_store_row rfl 25 _ _ rfl (w.heap.size + 1) _ rfl rfl 25 _ R1'.out sizePage rfl (by simp [Value.oneCell']) ?_) | (refine wpList_store_row rfl 25 _ _ rfl (w.heap.size + 2) _ rfl rfl 25 _ BX2.out sizePage rfl (by simp [Value.oneCell']) ?_) | fail)
      refine bodyPost_ret (v := .tuple #[.agg _, .agg _, _, _]) (results_cells Try.results28 _ _ (w.heap.size + 1) (w.heap.size + 2) 25 25 _ _ (0, 0) (0, 0) _ rfl BY1.out rfl BY2.out Try.underlying25 rfl sizePage sizePage) rfl ?_
      exact ⟨Pv.zero, Pv.zero, none, 0, rfl, Pi.zero _, Pi.zero _, Bs.nil _, rfl, rfl, below_row _ (below_row _ BV.out (by omega)) (by omega)⟩
    | true =>
      rw [hk] at ME
      have h8 : ((m : Int) != 8) = true := by
        have : m ≠ 8 := fun e => hq ⟨hk, e⟩
        simp; omega
      clear hk hq RW
      go_enter Try.func28, Try.ntmps28
      go_wp2_with fail
      refine (ME.out _).mono ?_
      rintro _ w6 ⟨rfl, h4⟩
      have R1' := hide (blk_keep U3.out.2.1 h4)
      have R2' := hide (blk_keep U3.out.2.2.1 h4)
      have BV := hide (bt U3.out.2.2.2 h4)
      obtain ⟨x0, x1, x2, x3, x4⟩ := cells5 (blk_keep U3.out.1 h4)
      clear h4 U3 ME
      have BX1 := hide (setRow_heap w6 (w.heap.size + 1) _ #[.int .i64 0, .int .i64 0, .slice none 0 0, .slice none 0 0, .int .i64 0] _ _ R1'.out)
      have BX2 := hide (row_far (W := w6) (g := w.heap.size + 1) #[.int .i64 0, .int .i64 0, .slice none 0 0, .slice none 0 0, .int .i64 0] R2'.out (by omega))
      have BY1 := hide (row_far (g := w.heap.size + 2) #[.int .i64 0, .int .i64 0, .slice none 0 0, .slice none 0 0, .int .i64 0] BX1.out (by omega))
      have BY2 := hide (setRow_heap _ (w.heap.size + 2) _ #[.int .i64 0, .int .i64 0, .slice none 0 0, .slice none 0 0, .int .i64 0] _ _ BX2.out)
      go_wp2_with (first | (refine wpList_store_row rfl 25 _ _ rfl (w.heap.size + 1) _ rfl rfl 25 _ R1'.out sizePage rfl (by simp [Value.oneCell']) ?_) | (refine wpList_store_row rfl 25 _ _ rfl (w.heap.size + 2) _ rfl rfl 25 _ BX2.out sizePage rfl (by simp [Value.oneCell']) ?_) | fail)
      refine bodyPost_ret (v := .tuple #[.agg _, .agg _, _, _]) (results_cells Try.results28 _ _ (w.heap.size + 1) (w.heap.size + 2) 25 25 _ _ (0, 0) (0, 0) _ rfl BY1.out rfl BY2.out Try.underlying25 rfl sizePage sizePage) rfl ?_
      exact ⟨Pv.zero, Pv.zero, none, 0, rfl, Pi.zero _, Pi.zero _, Bs.nil _, rfl, rfl, below_row _ (below_row _ BV.out (by omega)) (by omega)⟩
end Go.Proofs.Ytljafmkehfnldaa
