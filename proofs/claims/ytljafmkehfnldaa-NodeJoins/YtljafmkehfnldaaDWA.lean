import Derived.Test.YtljafmkehfnldaaDW
namespace Go.Proofs.Ytljafmkehfnldaa
set_option linter.unusedVariables false
set_option linter.unusedSimpArgs false
open Go.RowKit
theorem take_nx {L : List Iv} {k : Nat} (h : k < L.length) : L.take (k + 1) = L.take k ++ [L.getD k Iv.zero] := by
  rw [List.take_succ_eq_append_getElem h]; simp [h]
theorem drop_nx {L : List Iv} {n k : Nat} (hn : n ≤ k) (h : k < L.length) : (L.drop n).take (k + 1 - n) = (L.drop n).take (k - n) ++ [L.getD k Iv.zero] := by
  have h2 : k - n < (L.drop n).length := by rw [List.length_drop]; omega
  rw [show k + 1 - n = (k - n) + 1 by omega, List.take_succ_eq_append_getElem h2]
  simp [h, show n + (k - n) = k by omega]
set_option maxHeartbeats 8000000 in
set_option maxRecDepth 8000 in
theorem rInsert_any (w : World) (p : Pv) (i : Int) (x : Iv) (hP : Pj w p) (hX : Ii w x) (hxs : x.key.length ≤ 140737488355264 ∧ x.val.length ≤ 140737488355264) :
    Calls Try.prog 22 #[p.vl, .int .i64 i, x.vl] w fun e w' => ∃ q : Pv, e = .returned (.tuple #[q.vl, .bool (Pg.ins p.pg i x.it).2]) ∧ Pn w w' q ∧ q.pg = (Pg.ins p.pg i x.it).1 ∧ Below w.heap.size w w' := by
  have hL := hP.n
  have JL := hide hP.i.it
  have SL := hide hP.s
  have RW := hide fun (W : World) (hb : Below w.heap.size w W) (a : Option Addr) (n c : Nat) (M : List Iv) (hJ : Js W a M) (hn : n = M.length) (hs : Sml M) => rwith_any W p a n c M (hP.keep hb) hJ hn hs
  have IX := hide hX
  have SX := hide hxs
  clear hP hX hxs
  obtain ⟨kind, level, aI, cI, L, aD, cD, data, next⟩ := p
  obtain ⟨xK, xcK, xkey, xV, xcV, xval, xch, xsz⟩ := x
  unfold Pv.vl at RW ⊢
  unfold Iv.vl
  simp only [Pv.cs, Iv.cs] at RW hL JL SL IX SX ⊢
  obtain ⟨m, hm⟩ : ∃ m, L.length = m := ⟨_, rfl⟩
  have HM := hide hm
  have EP : Hid ((Pv.pg ⟨kind, level, aI, cI, L, aD, cD, data, next⟩).items = L.map Iv.it) := rfl
  simp only [hm] at RW hL ⊢
  clear hm
  have U3 := hide (three_blocks w (.cells #[.int .i64 kind, .int .i64 level, .slice aI m cI, .slice aD data.length cD, .int .i64 next] 25) (.cells #[.slice xK xkey.length xcK, .slice xV xval.length xcV, .int .i64 xch, .int .i64 xsz] 37) (.cells #[.int .i64 0, .int .i64 0, .slice none 0 0, .slice none 0 0, .int .i64 0] 25))
  by_cases hq : i < 0 ∨ (m : Int) < i ∨ 8 ≤ m
  · have MZ : Hid (Pg.ins (Pv.pg ⟨kind, level, aI, cI, L, aD, cD, data, next⟩) i (Iv.it ⟨xK, xcK, xkey, xV, xcV, xval, xch, xsz⟩) = (Pg.zero, false)) := by
      show _ = _
      unfold Pg.ins
      rw [EP.out, List.length_map, HM.out, if_pos hq]
    rw [MZ.out]
    have HX := hide U3.out.2.2.1
    have AB := hide U3.out.2.2.2
    clear RW U3
    by_cases h0 : i < 0
    · have d0 : decide (i < 0) = true := decide_eq_true h0
      go_enter Try.func22, Try.ntmps22
      go_wp2_with (first | (refine wpList_store_row rfl 25 _ _ rfl (w.heap.size + 2) _ rfl rfl 25 _ HX.out sizePage rfl (by simp [Value.oneCell']) ?_) | fail)
      refine bodyPost_ret (v := .tuple #[.agg _, _]) (results_cell_one Try.results22 _ _ (w.heap.size + 2) 25 _ (0, 0) _ rfl (setRow_heap _ _ _ _ _ _ HX.out) Try.underlying25 rfl sizePage) rfl ?_
      exact ⟨Pv.zero, rfl, Pn.zero _ _, rfl, below_row _ AB.out (by omega)⟩
    · have d0 : decide (i < 0) = false := decide_eq_false h0
      by_cases h1 : (m : Int) < i
      · have d1 : decide ((m : Int) < i) = true := decide_eq_true h1
        go_enter Try.func22, Try.ntmps22
        go_wp2_with (first | (refine wpList_store_row rfl 25 _ _ rfl (w.heap.size + 2) _ rfl rfl 25 _ HX.out sizePage rfl (by simp [Value.oneCell']) ?_) | fail)
        refine bodyPost_ret (v := .tuple #[.agg _, _]) (results_cell_one Try.results22 _ _ (w.heap.size + 2) 25 _ (0, 0) _ rfl (setRow_heap _ _ _ _ _ _ HX.out) Try.underlying25 rfl sizePage) rfl ?_
        exact ⟨Pv.zero, rfl, Pn.zero _ _, rfl, below_row _ AB.out (by omega)⟩
      · have d1 : decide ((m : Int) < i) = false := decide_eq_false h1
        have d2 : decide (8 ≤ (m : Int)) = true := decide_eq_true (by omega)
        have d3 : decide (8 ≤ m) = true := decide_eq_true (by omega)
        go_enter Try.func22, Try.ntmps22
        go_wp2_with (first | (refine wpList_store_row rfl 25 _ _ rfl (w.heap.size + 2) _ rfl rfl 25 _ HX.out sizePage rfl (by simp [Value.oneCell']) ?_) | fail)
        refine bodyPost_ret (v := .tuple #[.agg _, _]) (results_cell_one Try.results22 _ _ (w.heap.size + 2) 25 _ (0, 0) _ rfl (setRow_heap _ _ _ _ _ _ HX.out) Try.underlying25 rfl sizePage) rfl ?_
        exact ⟨Pv.zero, rfl, Pn.zero _ _, rfl, below_row _ AB.out (by omega)⟩
  · obtain ⟨n, rfl⟩ : ∃ n : Nat, i = (n : Int) := ⟨i.toNat, by omega⟩
    have hnm : n ≤ m := by omega
    have h8 : m < 8 := by omega
    have d0 : decide ((n : Int) < 0) = false := decide_eq_false (by omega)
    have d1 : decide ((m : Int) < (n : Int)) = false := decide_eq_false (by omega)
    have d2 : decide (m < n) = false := decide_eq_false (by omega)
    have d3 : decide (8 ≤ (m : Int)) = false := decide_eq_false (by omega)
    have d4 : decide (8 ≤ m) = false := decide_eq_false (by omega)
    have MZ : Hid (Pg.ins (Pv.pg ⟨kind, level, aI, cI, L, aD, cD, data, next⟩) (n : Int) (Iv.it ⟨xK, xcK, xkey, xV, xcV, xval, xch, xsz⟩) = ((Pv.pg ⟨kind, level, aI, cI, L, aD, cD, data, next⟩).wi ((L.take n ++ [(⟨xK, xcK, xkey, xV, xcV, xval, xch, xsz⟩ : Iv)] ++ L.drop n).map Iv.it), true)) := by
      show _ = _
      unfold Pg.ins
      rw [EP.out, List.length_map, HM.out, if_neg hq]
      simp [List.map_append, List.map_take, List.map_drop]
    rw [MZ.out]
    have T1 := hide fun (k : Nat) (hk : k < m) => take_nx (L := L) (k := k) (by rw [HM.out]; exact hk)
    have T2 := hide fun (k : Nat) (hn : n ≤ k) (hk : k < m) => drop_nx (L := L) hn (by rw [HM.out]; exact hk)
    have ME : Hid (∀ r ∈ L.take n ++ [(⟨xK, xcK, xkey, xV, xcV, xval, xch, xsz⟩ : Iv)] ++ L.drop n, Ii w r ∧ r.key.length ≤ 140737488355264 ∧ r.val.length ≤ 140737488355264) := fun r hr => by
      rcases List.mem_append.1 hr with hr | hr
      · rcases List.mem_append.1 hr with hr | hr
        · exact ⟨JL.out.1 r (List.mem_of_mem_take hr), SL.out r (List.mem_of_mem_take hr)⟩
        · rw [List.mem_singleton.1 hr]; exact ⟨IX.out, SX.out⟩
      · exact ⟨JL.out.1 r (List.mem_of_mem_drop hr), SL.out r (List.mem_of_mem_drop hr)⟩
    clear hq
    go_enter Try.func22, Try.ntmps22
    go_wp2_with fail
    have BP := hide U3.out.1
    have BI := hide U3.out.2.1
    have BR := hide U3.out.2.2.1
    have B3 := hide U3.out.2.2.2
    clear U3
    generalize (((w.alloc (.cells #[.int .i64 kind, .int .i64 level, .slice aI m cI, .slice aD data.length cD, .int .i64 next] 25)).alloc (.cells #[.slice xK xkey.length xcK, .slice xV xval.length xcV, .int .i64 xch, .int .i64 xsz] 37)).alloc (.cells #[.int .i64 0, .int .i64 0, .slice none 0 0, .slice none 0 0, .int .i64 0] 25)) = w3 at *
    go_loopw [8, 9] (fun o i wx => ∃ (k : Nat) (ak : Option Addr) (ck : Nat), k ≤ n ∧ i = .int .i64 k ∧ o = .slice ak k ck ∧ JOwn w3 wx ak ck (L.take k)) (fun _ i _ => n - (intOf i).toNat)
    case atStart => exact ⟨0, none, 0, Nat.zero_le _, rfl, rfl, by rw [List.take_zero]; exact JOwn.nil _ (Below.refl _ _)⟩
    case round =>
      obtain ⟨k, ak, ck, hk, rfl, rfl, hO⟩ := hrel
      have O0 := hide hO
      obtain ⟨x0, x1, x2, x3, x4⟩ := cells5 (blk_keep BP.out hO.b)
      clear hO
      by_cases hlt : k < n
      · have hlti : (k : Int) < (n : Int) := by omega
        have hkm : (k : Int) < (m : Int) := by omega
        have hkL : k < L.length := by rw [HM.out]; omega
        have LK : Hid (k = (L.take k).length) := by show _ = _; rw [List.length_take]; omega
        have T3 := hide (T1.out k (by omega))
        obtain ⟨bI, off, rfl, hr⟩ := (JL.out.keep (bt B3.out O0.out.b)).at hkL
        obtain ⟨k0, k1, k2, k3⟩ := range4 hr
        have hbl : bI < wr.heap.size := block_lt_of_cell k0
        have J2 := hide (O0.out.r.keep (al wr (.cells (L.getD k Iv.zero).cs 37)))
        have BX := hide (box_item wr (L.getD k Iv.zero) wr.heap.size rfl)
        have hml : (L.take k).length + 1 ≤ 2199023255520 := by rw [← LK.out]; omega
        have ST := hide fun (W2 : World) (g c2 : Nat) (hJ : Jw W2 (some ⟨g, 0, none⟩) c2 (L.take k ++ [L.getD k Iv.zero])) (hN : New (wr.alloc (.cells (L.getD k Iv.zero).cs 37)) ak (some ⟨g, 0, none⟩)) (hg : (wr.alloc (.cells (L.getD k Iv.zero).cs 37)).grownBy W2 (ak.map Addr.block)) => O0.out.step (al wr _) hJ hN hg
        clear hr
        generalize L.getD k Iv.zero = v at *
        obtain ⟨aK, cK, key, aV, cV, val, child, size⟩ := v
        simp only [Iv.cs] at k0 k1 k2 k3 J2 BX ST
        go_wp2_with (at_builtin; refine wpList_apJ rfl _ _ rfl ak k ck (L.take k) rfl LK.out J2.out ⟨_, 0, none⟩ 1 ⟨aK, cK, key, aV, cV, val, child, size⟩ rfl BX.out hml ?_)
        intro g2 c2 w8 hJ hN hg
        have O2 := hide (ST.out _ _ _ hJ hN hg)
        rw [← T3.out] at O2
        clear hJ hN hg ST
        go_wp2
        go_roundw
        case rel => exact ⟨k + 1, some ⟨g2, 0, none⟩, c2, by omega, by go_num, rfl, O2.out⟩
        case measure => simp [intOf]; omega
      · obtain rfl : k = n := by omega
        obtain ⟨y0, y1, y2, y3⟩ := cells4 (blk_keep BI.out O0.out.b)
        have hbi : w.heap.size + 1 < wr.heap.size := block_lt_of_cell y0
        have LK : Hid (k = (L.take k).length) := by show _ = _; rw [List.length_take, HM.out]; omega
        have J2 := hide (O0.out.r.keep (al wr (.cells #[.slice xK xkey.length xcK, .slice xV xval.length xcV, .int .i64 xch, .int .i64 xsz] 37)))
        have BX := hide (box_item wr ⟨xK, xcK, xkey, xV, xcV, xval, xch, xsz⟩ wr.heap.size rfl)
        have ST := hide fun (W2 : World) (g c2 : Nat) (hJ : Jw W2 (some ⟨g, 0, none⟩) c2 (L.take k ++ [(⟨xK, xcK, xkey, xV, xcV, xval, xch, xsz⟩ : Iv)])) (hN : New (wr.alloc (.cells #[.slice xK xkey.length xcK, .slice xV xval.length xcV, .int .i64 xch, .int .i64 xsz] 37)) ak (some ⟨g, 0, none⟩)) (hg : (wr.alloc (.cells #[.slice xK xkey.length xcK, .slice xV xval.length xcV, .int .i64 xch, .int .i64 xsz] 37)).grownBy W2 (ak.map Addr.block)) => O0.out.step (al wr _) hJ hN hg
        simp only [Iv.cs] at BX
        have hml : (L.take k).length + 1 ≤ 2199023255520 := by rw [← LK.out]; omega
        go_wp2_with (at_builtin; refine wpList_apJ rfl _ _ rfl ak k ck (L.take k) rfl LK.out J2.out ⟨_, 0, none⟩ 1 ⟨xK, xcK, xkey, xV, xcV, xval, xch, xsz⟩ rfl BX.out hml ?_)
        intro g2 c2 w8 hJ hN hg
        have O2 := hide (ST.out _ _ _ hJ hN hg)
        clear hJ hN hg ST J2 BX LK hml x0 x1 x2 x3 x4 y0 y1 y2 y3 O0
        go_wp2_with fail
        go_loopw [8, 10] (fun o i wx => ∃ (j : Nat) (aj : Option Addr) (cj : Nat), k ≤ j ∧ j ≤ m ∧ i = .int .i64 j ∧ o = .slice aj (j + 1) cj ∧ JOwn w3 wx aj cj (L.take k ++ [(⟨xK, xcK, xkey, xV, xcV, xval, xch, xsz⟩ : Iv)] ++ (L.drop k).take (j - k))) (fun _ i _ => m - (intOf i).toNat)
        case atStart => exact ⟨k, some ⟨g2, 0, none⟩, c2, Nat.le_refl _, hnm, rfl, rfl, by rw [Nat.sub_self, List.take_zero, List.append_nil]; exact O2.out⟩
        case round =>
          obtain ⟨j, aj, cj, hkj, hj, rfl, rfl, hO⟩ := hrel
          have O0 := hide hO
          obtain ⟨x0, x1, x2, x3, x4⟩ := cells5 (blk_keep BP.out hO.b)
          clear hO O2
          by_cases hlt : j < m
          · have hlti : (j : Int) < (m : Int) := by omega
            have hkL : j < L.length := by rw [HM.out]; exact hlt
            have LK : Hid (j + 1 = (L.take k ++ [(⟨xK, xcK, xkey, xV, xcV, xval, xch, xsz⟩ : Iv)] ++ (L.drop k).take (j - k)).length) := by show _ = _; rw [List.length_append, List.length_append, List.length_take, List.length_take, List.length_drop, HM.out]; simp only [List.length_cons, List.length_nil]; omega
            have T3 : Hid (L.take k ++ [(⟨xK, xcK, xkey, xV, xcV, xval, xch, xsz⟩ : Iv)] ++ (L.drop k).take (j + 1 - k) = (L.take k ++ [(⟨xK, xcK, xkey, xV, xcV, xval, xch, xsz⟩ : Iv)] ++ (L.drop k).take (j - k)) ++ [L.getD j Iv.zero]) := by show _ = _; rw [T2.out j hkj hlt]; simp only [List.append_assoc]
            obtain ⟨bI, off, rfl, hr⟩ := (JL.out.keep (bt B3.out O0.out.b)).at hkL
            obtain ⟨k0, k1, k2, k3⟩ := range4 hr
            have hbl : bI < wr.heap.size := block_lt_of_cell k0
            have J2 := hide (O0.out.r.keep (al wr (.cells (L.getD j Iv.zero).cs 37)))
            have BX := hide (box_item wr (L.getD j Iv.zero) wr.heap.size rfl)
            have hml : (L.take k ++ [(⟨xK, xcK, xkey, xV, xcV, xval, xch, xsz⟩ : Iv)] ++ (L.drop k).take (j - k)).length + 1 ≤ 2199023255520 := by rw [← LK.out]; omega
            have ST := hide fun (W2 : World) (g c2 : Nat) (hJ : Jw W2 (some ⟨g, 0, none⟩) c2 ((L.take k ++ [(⟨xK, xcK, xkey, xV, xcV, xval, xch, xsz⟩ : Iv)] ++ (L.drop k).take (j - k)) ++ [L.getD j Iv.zero])) (hN : New (wr.alloc (.cells (L.getD j Iv.zero).cs 37)) aj (some ⟨g, 0, none⟩)) (hg : (wr.alloc (.cells (L.getD j Iv.zero).cs 37)).grownBy W2 (aj.map Addr.block)) => O0.out.step (al wr _) hJ hN hg
            clear hr
            generalize L.getD j Iv.zero = v at *
            generalize (L.take k ++ [(⟨xK, xcK, xkey, xV, xcV, xval, xch, xsz⟩ : Iv)] ++ (L.drop k).take (j - k)) = M at *
            obtain ⟨aK, cK, key, aV, cV, val, child, size⟩ := v
            simp only [Iv.cs] at k0 k1 k2 k3 J2 BX ST
            go_wp2_with (at_builtin; refine wpList_apJ rfl _ _ rfl aj (j + 1) cj M rfl LK.out J2.out ⟨_, 0, none⟩ 1 ⟨aK, cK, key, aV, cV, val, child, size⟩ rfl BX.out hml ?_)
            intro g3 c3 w9 hJ hN hg
            have O3 := hide (ST.out _ _ _ hJ hN hg)
            rw [← T3.out] at O3
            clear hJ hN hg ST
            go_wp2
            go_roundw
            case rel => exact ⟨j + 1, some ⟨g3, 0, none⟩, c3, by omega, by omega, by go_num, rfl, O3.out⟩
            case measure => simp [intOf]; omega
          · obtain rfl : j = m := by omega
            have ED : Hid ((L.drop k).take (j - k) = L.drop k) := List.take_of_length_le (by rw [List.length_drop, HM.out]; exact Nat.le_refl _)
            have OE := O0.out
            rw [ED.out] at OE
            have LE : Hid (j + 1 = (L.take k ++ [(⟨xK, xcK, xkey, xV, xcV, xval, xch, xsz⟩ : Iv)] ++ L.drop k).length) := by show _ = _; rw [List.length_append, List.length_append, List.length_take, List.length_drop, HM.out]; simp only [List.length_cons, List.length_nil]; omega
            have JQ := hide (OE.qs (fun r hr => (ME.out r hr).1.keep B3.out) (by rw [← LE.out]; omega))
            have RWW := hide (RW.out wr (bt B3.out OE.b) aj (j + 1) cj _ JQ.out LE.out (fun r hr => (ME.out r hr).2))
            have BB := hide (bt B3.out OE.b)
            have HX := hide (blk_keep BR.out OE.b)
            clear OE JQ
            go_wp2_with fail
            refine RWW.out.mono ?_
            rintro _ w9 ⟨q, rfl, hq, hg, hb⟩
            have Q := hide (hq.pre BB.out.size)
            have G := hide hg
            have B10 := hide (bt BB.out hb)
            have HX2 := hide (blk_keep HX.out hb)
            clear hq hg hb RWW x0 x1 x2 x3 x4
            go_wp2_with (first | (refine wpList_store_row rfl 25 _ _ rfl (w.heap.size + 2) _ rfl rfl 25 _ HX2.out sizePage rfl (by simp [Value.oneCell']) ?_) | fail)
            refine bodyPost_ret (v := .tuple #[.agg _, _]) (results_cell_one Try.results22 _ _ (w.heap.size + 2) 25 _ (0, 0) _ rfl (setRow_heap _ _ _ _ _ _ HX2.out) Try.underlying25 rfl sizePage) rfl ?_
            exact ⟨q, rfl, Q.out.row HX2.out (by decide) (by decide) _, G.out, below_row _ B10.out (by omega)⟩
set_option maxHeartbeats 8000000 in
set_option maxRecDepth 8000 in
theorem rReplace_any (w : World) (p : Pv) (i : Int) (x : Iv) (hP : Pj w p) (hX : Ii w x) (hxs : x.key.length ≤ 140737488355264 ∧ x.val.length ≤ 140737488355264) :
    Calls Try.prog 23 #[p.vl, .int .i64 i, x.vl] w fun e w' => ∃ q : Pv, e = .returned (.tuple #[q.vl, .bool (Pg.rep p.pg i x.it).2]) ∧ Pi w' q ∧ q.pg = (Pg.rep p.pg i x.it).1 ∧ Below w.heap.size w w' := by
  have hL := hP.n
  have RW := hide fun (W : World) (hb : Below w.heap.size w W) => rwith_any W p p.aI p.items.length p.cI p.items (hP.keep hb) (hP.i.it.keep hb) rfl hP.s
  have CX := hide fun (W : World) (hb : Below w.heap.size w W) => CopyItem_any W x (hX.keep hb) hxs.1 hxs.2
  have IX := hide hX
  clear hP hX hxs
  obtain ⟨kind, level, aI, cI, L, aD, cD, data, next⟩ := p
  obtain ⟨xK, xcK, xkey, xV, xcV, xval, xch, xsz⟩ := x
  unfold Pv.vl at RW ⊢
  unfold Iv.vl at CX ⊢
  simp only [Pv.cs, Iv.cs] at RW hL CX IX ⊢
  obtain ⟨m, hm⟩ : ∃ m, L.length = m := ⟨_, rfl⟩
  have HM := hide hm
  have EP : Hid ((Pv.pg ⟨kind, level, aI, cI, L, aD, cD, data, next⟩).items = L.map Iv.it) := rfl
  simp only [hm] at RW hL ⊢
  clear hm
  have U3 := hide (three_blocks w (.cells #[.int .i64 kind, .int .i64 level, .slice aI m cI, .slice aD data.length cD, .int .i64 next] 25) (.cells #[.slice xK xkey.length xcK, .slice xV xval.length xcV, .int .i64 xch, .int .i64 xsz] 37) (.cells #[.int .i64 0, .int .i64 0, .slice none 0 0, .slice none 0 0, .int .i64 0] 25))
  by_cases hq : i < 0 ∨ (m : Int) ≤ i
  · have MZ : Hid (Pg.rep (Pv.pg ⟨kind, level, aI, cI, L, aD, cD, data, next⟩) i (Iv.it ⟨xK, xcK, xkey, xV, xcV, xval, xch, xsz⟩) = (Pg.zero, false)) := by
      show _ = _
      unfold Pg.rep
      rw [EP.out, List.length_map, HM.out, if_pos hq]
    rw [MZ.out]
    have HX := hide U3.out.2.2.1
    have AB := hide U3.out.2.2.2
    clear RW U3
    by_cases h0 : i < 0
    · have d0 : decide (i < 0) = true := decide_eq_true h0
      go_enter Try.func23, Try.ntmps23
      go_wp2_with (first | (refine wpList_store_row rfl 25 _ _ rfl (w.heap.size + 2) _ rfl rfl 25 _ HX.out sizePage rfl (by simp [Value.oneCell']) ?_) | fail)
      refine bodyPost_ret (v := .tuple #[.agg _, _]) (results_cell_one Try.results23 _ _ (w.heap.size + 2) 25 _ (0, 0) _ rfl (setRow_heap _ _ _ _ _ _ HX.out) Try.underlying25 rfl sizePage) rfl ?_
      exact ⟨Pv.zero, rfl, Pi.zero _, rfl, below_row _ AB.out (by omega)⟩
    · have d0 : decide (i < 0) = false := decide_eq_false h0
      have d1 : decide ((m : Int) ≤ i) = true := decide_eq_true (by omega)
      go_enter Try.func23, Try.ntmps23
      go_wp2_with (first | (refine wpList_store_row rfl 25 _ _ rfl (w.heap.size + 2) _ rfl rfl 25 _ HX.out sizePage rfl (by simp [Value.oneCell']) ?_) | fail)
      refine bodyPost_ret (v := .tuple #[.agg _, _]) (results_cell_one Try.results23 _ _ (w.heap.size + 2) 25 _ (0, 0) _ rfl (setRow_heap _ _ _ _ _ _ HX.out) Try.underlying25 rfl sizePage) rfl ?_
      exact ⟨Pv.zero, rfl, Pi.zero _, rfl, below_row _ AB.out (by omega)⟩
  · obtain ⟨n, rfl⟩ : ∃ n : Nat, i = (n : Int) := ⟨i.toNat, by omega⟩
    have hnm : n < m := by omega
    have hnI : (n : Int) < (m : Int) := by omega
    have hn0 : (0 : Int) ≤ (n : Int) := by omega
    have d0 : decide ((n : Int) < 0) = false := decide_eq_false (by omega)
    have d1 : decide ((m : Int) ≤ (n : Int)) = false := decide_eq_false (by omega)
    have d2 : decide (m ≤ n) = false := decide_eq_false (by omega)
    have MZ : Hid (Pg.rep (Pv.pg ⟨kind, level, aI, cI, L, aD, cD, data, next⟩) (n : Int) (Iv.it ⟨xK, xcK, xkey, xV, xcV, xval, xch, xsz⟩) = ((Pv.pg ⟨kind, level, aI, cI, L, aD, cD, data, next⟩).wi ((L.map Iv.it).take n ++ Iv.it ⟨xK, xcK, xkey, xV, xcV, xval, xch, xsz⟩ :: (L.map Iv.it).drop (n + 1)), true)) := by
      show _ = _
      unfold Pg.rep
      rw [EP.out, List.length_map, HM.out, if_neg hq]
      rfl
    rw [MZ.out]
    clear hq
    go_enter Try.func23, Try.ntmps23
    go_wp2_with fail
    refine (RW.out _ U3.out.2.2.2).mono ?_
    rintro _ w3 ⟨q, rfl, hq, hg, hb⟩
    have A3 := hide (al w3 (.cells #[.int .i64 q.kind, .int .i64 q.level, .slice q.aI q.items.length q.cI, .slice q.aD q.data.length q.cD, .int .i64 q.next] 25))
    have XQ := hide (heap_alloc_new w3 (.cells #[.int .i64 q.kind, .int .i64 q.level, .slice q.aI q.items.length q.cI, .slice q.aD q.data.length q.cD, .int .i64 q.next] 25))
    have BI := hide (blk_keep U3.out.2.1 (bt hb A3.out))
    have BR := hide (blk_keep U3.out.2.2.1 (bt hb A3.out))
    have B3 := hide (bt U3.out.2.2.2 (bt hb A3.out))
    have Q3 := hide ((hq.keep A3.out).pre U3.out.2.2.2.size)
    have G3 := hide hg
    have GN := hide hq.itn
    have hsz : (((w.alloc (.cells #[.int .i64 kind, .int .i64 level, .slice aI m cI, .slice aD data.length cD, .int .i64 next] 25)).alloc (.cells #[.slice xK xkey.length xcK, .slice xV xval.length xcV, .int .i64 xch, .int .i64 xsz] 37)).alloc (.cells #[.int .i64 0, .int .i64 0, .slice none 0 0, .slice none 0 0, .int .i64 0] 25)).heap.size = w.heap.size + 3 := by rw [size_alloc, size_alloc, size_alloc]
    have LQ : Hid (q.items.length = m) := by
      have := congrArg (fun p : Pg => p.items.length) hg
      simp only [Pv.pg, Pg.wi, List.length_map] at this
      exact this.trans HM.out
    have hz3 : w.heap.size + 2 < w3.heap.size := by have := hb.size; have k := (Array.getElem?_eq_some_iff.1 (blk_keep U3.out.2.2.1 hb)).1; omega
    clear hq hg hb U3 RW
    rw [LQ.out] at XQ B3 BI BR Q3 A3 ⊢
    go_wp2_with fail
    generalize (w3.alloc (.cells #[.int .i64 q.kind, .int .i64 q.level, .slice q.aI m q.cI, .slice q.aD q.data.length q.cD, .int .i64 q.next] 25)) = w4 at *
    obtain ⟨gI, eI, -, -⟩ := Q3.out.it.addr (by rw [LQ.out]; omega)
    have hgI : w.heap.size + 3 ≤ gI := by
      rcases GN.out _ eI with ⟨z, hz, _⟩ | h
      · cases hz
      · rw [hsz] at h; exact h
    have hgX : gI ≠ w3.heap.size := Q3.out.it.nty (show Bx w4 25 w3.heap.size _ from XQ.out) (by decide) eI
    clear GN hsz
    have SS := hide fun (W : World) (hb : Below w4.heap.size w4 W) => (show W.cell? ⟨w3.heap.size, 2, none⟩ = some (.slice (some ⟨gI, 0, none⟩) m q.cI) ∧ (W.cell? ⟨w.heap.size + 1, 0, none⟩ = some (.slice xK xkey.length xcK) ∧ W.cell? ⟨w.heap.size + 1, 1, none⟩ = some (.slice xV xval.length xcV) ∧ W.cell? ⟨w.heap.size + 1, 2, none⟩ = some (.int .i64 xch) ∧ W.cell? ⟨w.heap.size + 1, 3, none⟩ = some (.int .i64 xsz)) from ⟨by rw [← eI]; exact (cells5 (blk_keep XQ.out hb)).2.2.1, cells4 (blk_keep BI.out hb)⟩)
    have D4 := hide (dr2 w4)
    refine wp_region_held_drew (S := fun W => W.cell? ⟨w3.heap.size, 2, none⟩ = some (.slice (some ⟨gI, 0, none⟩) m q.cI) ∧ (W.cell? ⟨w.heap.size + 1, 0, none⟩ = some (.slice xK xkey.length xcK) ∧ W.cell? ⟨w.heap.size + 1, 1, none⟩ = some (.slice xV xval.length xcV) ∧ W.cell? ⟨w.heap.size + 1, 2, none⟩ = some (.int .i64 xch) ∧ W.cell? ⟨w.heap.size + 1, 3, none⟩ = some (.int .i64 xsz))) (by kernel_rfl) (SS.out _ D4.out) (fun hHeld => ?_)
    refine wpAnyH_take (i := 0) (v := ?vah0) rfl (by kernel_rfl) (by kernel_rfl) (by kernel_rfl) (fun _ _ _ h => h) (Or.inl ⟨by rfl, ?hyh0⟩) (by assumption) ?rah0
    case hyh0 => (intro wq hSw; (try dsimp only at hSw); obtain ⟨e0, f0, f1, f2, f3⟩ := hSw; go_simp <;> with_reducible rfl)
    try simp only [Act.put, List.getElem_toArray, List.getElem_cons_zero, List.setIfInBounds_toArray, List.set_cons_zero, List.set_cons_succ]
    refine wpAnyH_take (i := 1) (v := ?vah1) rfl (by kernel_rfl) (by kernel_rfl) (by kernel_rfl) (fun _ _ _ h => h) (Or.inl ⟨by rfl, ?hyh1⟩) (by assumption) ?rah1
    case hyh1 => (intro wq hSw; (try dsimp only at hSw); obtain ⟨e0, f0, f1, f2, f3⟩ := hSw; go_simp <;> with_reducible rfl)
    try simp only [Act.put, List.getElem_toArray, List.getElem_cons_zero, List.getElem_cons_succ, List.setIfInBounds_toArray, List.set_cons_zero, List.set_cons_succ]
    refine wpAnyH_take (i := 2) (v := ?vah2) rfl (by kernel_rfl) (by kernel_rfl) (by kernel_rfl) (fun _ _ _ h => h) (Or.inl ⟨by rfl, ?hyh2⟩) (by assumption) ?rah2
    case hyh2 => (intro wq hSw; (try dsimp only at hSw); obtain ⟨e0, f0, f1, f2, f3⟩ := hSw; go_simp <;> with_reducible rfl)
    try simp only [Act.put, List.getElem_toArray, List.getElem_cons_zero, List.getElem_cons_succ, List.setIfInBounds_toArray, List.set_cons_zero, List.set_cons_succ]
    refine wpAnyH_take (i := 3) (v := ?vah3) rfl (by kernel_rfl) (by kernel_rfl) (by kernel_rfl) (fun _ _ _ h => h) (Or.inl ⟨by rfl, ?hyh3⟩) (by assumption) ?rah3
    case hyh3 => (intro wq hSw; (try dsimp only at hSw); obtain ⟨e0, f0, f1, f2, f3⟩ := hSw; go_simp <;> with_reducible rfl)
    try simp only [Act.put, List.getElem_toArray, List.getElem_cons_zero, List.getElem_cons_succ, List.setIfInBounds_toArray, List.set_cons_zero, List.set_cons_succ]
    refine wpAnyH_ready (rs := [4]) (by kernel_rfl) (by simp) ?_
    refine AllReadyH.cons rfl (fun K hK => ?_) AllReadyH.nil
    go_simp
    refine (CX.out _ (bt B3.out D4.out)).mono ?_
    rintro _ w5 ⟨y, rfl, hy, ey⟩
    have IY := hide hy
    have EY := hide ey
    have B5 := hide (bt D4.out hy.k.b)
    clear hy ey
    go_wp2_with fail
    refine hK.out _ _ (SS.out _ B5.out) (fun hHeld => ?_)
    clear hK K
    try simp only [Act.put, List.getElem_toArray, List.getElem_cons_zero, List.getElem_cons_succ, List.setIfInBounds_toArray, List.set_cons_zero, List.set_cons_succ]
    refine wpAnyH_take (i := 5) (v := ?vah5) rfl (by kernel_rfl) (by kernel_rfl) (by kernel_rfl) (fun _ _ _ h => h) (Or.inl ⟨by rfl, ?hyh5⟩) (by assumption) ?rah5
    case hyh5 => (intro wq hSw; (try dsimp only at hSw); obtain ⟨e0, f0, f1, f2, f3⟩ := hSw; go_simp <;> with_reducible rfl)
    try simp only [Act.put, List.getElem_toArray, List.getElem_cons_zero, List.getElem_cons_succ, List.setIfInBounds_toArray, List.set_cons_zero, List.set_cons_succ]
    have Q5 := hide (Q3.out.keep B5.out)
    have J5 : Hid (Jw w5 (some ⟨gI, 0, none⟩) q.cI q.items) := by show Jw _ _ _ _; rw [← eI]; exact Q5.out.it
    obtain ⟨⟨c0, c1, c2, c3⟩, z0, z1, z2, z3⟩ := J5.out.item4 (k := n) (by rw [LQ.out]; exact hnm)
    have F5 := hide (Q5.out.fam (bt B3.out B5.out))
    have XQ5 := hide (blk_keep XQ.out B5.out)
    have BI5 := hide (blk_keep BI.out B5.out)
    have BR5 := hide (blk_keep BR.out B5.out)
    have hB := but_setCells gI y.cs.toList w5 (n * 4)
    have J6 := hide (J5.out.setv n y)
    have BW6 : Hid (Below w.heap.size w (w5.setCells gI (n * 4) y.cs.toList)) := ((But.ofBelow (S := fun k => k = gI) (bt B3.out B5.out)).trans hB (fun _ _ e => e)).below (fun k hk e => by omega)
    have F6 := hide (F5.out.but hB BW6.out (fun t ht x hx e => J5.out.ne (F5.out.own t ht).1.r rfl hx e.symm))
    have BW4 : Hid (Below w4.heap.size w4 w5) := B5.out
    have FY := hide (Fam.pre (bt B3.out D4.out) IY.out.fam)
    have FY6 := hide (FY.out.but hB BW6.out (fun t ht x hx e => J5.out.ne (FY.out.own t ht).1.r rfl hx e.symm))
    have X6 := hide ((hB.block w3.heap.size (Array.getElem?_eq_some_iff.1 XQ5.out).1 (fun e => hgX e.symm)).trans XQ5.out)
    have I6 := hide ((hB.block (w.heap.size + 1) (Array.getElem?_eq_some_iff.1 BI5.out).1 (by omega)).trans BI5.out)
    have R6 := hide ((hB.block (w.heap.size + 2) (Array.getElem?_eq_some_iff.1 BR5.out).1 (by omega)).trans BR5.out)
    clear hB
    rw [nest4] at J6 BW6 F6 FY6 X6 I6 R6
    refine wpAnyH_ready (rs := [6]) (by kernel_rfl) (by simp) ?_
    refine AllReadyH.cons rfl (fun K hK => ?_) AllReadyH.nil
    go_simp
    refine hK.out _ _ ⟨by rw [← eI]; exact (cells5 X6.out).2.2.1, cells4 I6.out⟩ (fun hHeld => ?_)
    clear hK K
    try simp only [Act.put, List.getElem_toArray, List.getElem_cons_zero, List.getElem_cons_succ, List.setIfInBounds_toArray, List.set_cons_zero, List.set_cons_succ]
    refine wpAnyH_done (by kernel_rfl) ?_ _
    clear hHeld c0 c1 c2 c3 z0 z1 z2 z3
    generalize (((w5.setCell ⟨gI, n * 4, none⟩ (.slice y.aK y.key.length y.cK)).setCell ⟨gI, n * 4 + 1, none⟩ (.slice y.aV y.val.length y.cV)).setCell ⟨gI, n * 4 + 2, none⟩ (.int .i64 y.child)).setCell ⟨gI, n * 4 + 3, none⟩ (.int .i64 y.size) = w6 at *
    obtain ⟨x0, x1, x2, x3, x4⟩ := cells5 X6.out
    go_wp2_with (first | (refine wpList_store_row rfl 25 _ _ rfl (w.heap.size + 2) _ rfl rfl 25 _ R6.out sizePage rfl (by simp [Value.oneCell']) ?_) | fail)
    refine bodyPost_ret (v := .tuple #[.agg _, _]) (results_cell_one Try.results23 _ _ (w.heap.size + 2) 25 _ (0, 0) _ rfl (setRow_heap _ _ _ _ _ _ R6.out) Try.underlying25 rfl sizePage) rfl ?_
    have hN : N64 y.child ∧ N64 y.size := it_n EY.out ⟨IX.out.nc, IX.out.ns⟩
    have hR := but_setRow w6 (w.heap.size + 2) #[.int .i64 q.kind, .int .i64 q.level, .slice (some ⟨gI, 0, none⟩) m q.cI, .slice q.aD q.data.length q.cD, .int .i64 q.next]
    have bR : Below w.heap.size w (w6.setRow (w.heap.size + 2) #[.int .i64 q.kind, .int .i64 q.level, .slice (some ⟨gI, 0, none⟩) m q.cI, .slice q.aD q.data.length q.cD, .int .i64 q.next]) := below_row _ BW6.out (by omega)
    have F7 := F6.out.but hR bR (fun t ht x hx e => (F6.out.own t ht).1.r.nty (show Bx w6 25 _ _ from R6.out) (by decide) hx e)
    have FY7 := FY6.out.but hR bR (fun t ht x hx e => (FY6.out.own t ht).1.r.nty (show Bx w6 25 _ _ from R6.out) (by decide) hx e)
    have J7 := J6.out.but hR (fun x hx e => J6.out.nty (show Bx w6 25 _ _ from R6.out) (by decide) hx e)
    have hIt : ∀ r ∈ q.items.set n y, Ii (w6.setRow (w.heap.size + 2) #[.int .i64 q.kind, .int .i64 q.level, .slice (some ⟨gI, 0, none⟩) m q.cI, .slice q.aD q.data.length q.cD, .int .i64 q.next]) r := fun r hr => by
      rcases List.mem_or_eq_of_mem_set hr with h | rfl
      · exact Fam.ii (F7.sub (List.sublist_cons_self _ _)) Q5.out.ns r h
      · exact (Fam.io FY7).ii hN.1 hN.2
    have hDa := F7.own ⟨q.aD, q.cD, q.data⟩ List.mem_cons_self
    have hLs : (q.items.set n y).length = m := by rw [List.length_set]; exact LQ.out
    refine ⟨{ q with aI := some ⟨gI, 0, none⟩, items := q.items.set n y }, by simp only [hLs]; rfl, ⟨?_, ?_, hDa.1.bs hDa.2, hDa.1.r.cap, Q5.out.nk, Q5.out.nl, Q5.out.nn⟩, ?_, bR⟩
    · exact J7.qs hIt (by rw [hLs]; omega)
    · show (q.items.set n y).length ≤ q.cI
      rcases J7.cases with ⟨h0, _⟩ | ⟨g', cur, _, _, h1, _⟩
      · cases h0
      · exact h1
    · have e1 : q.items.map Iv.it = L.map Iv.it := congrArg Pg.items G3.out
      have e2 : q.kind = kind := congrArg Pg.kind G3.out
      have e3 : q.level = level := congrArg Pg.level G3.out
      have e4 : q.data = data := congrArg Pg.data G3.out
      have e5 : q.next = next := congrArg Pg.next G3.out
      have hnl : n < (L.map Iv.it).length := by rw [List.length_map, HM.out]; exact hnm
      have ey : y.it = _ := EY.out
      unfold Pv.pg Pg.wi
      simp only [e2, e3, e4, e5, List.map_set, e1, ey]
      rw [List.set_eq_take_append_cons_drop, if_pos hnl]
end Go.Proofs.Ytljafmkehfnldaa
