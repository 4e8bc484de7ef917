import Derived.Test.YtljafmkehfnldaaDWE
namespace Go.Proofs.Ytljafmkehfnldaa
set_option linter.unusedVariables false
set_option linter.unusedSimpArgs false
open Go.RowKit
/-- the items behind those of the left page -/
def tlY (Y : Iv) (R : List Iv) (k : Nat) : List Iv := if k = 0 then [] else Y :: (R.take k).drop 1
theorem tlY_len {Y : Iv} {R : List Iv} {k : Nat} (h : k ≤ R.length) : (tlY Y R k).length = k := by
  unfold tlY
  split
  · simp_all
  · simp only [List.length_cons, List.length_drop, List.length_take]; omega
theorem tlY_nx {Y : Iv} {R : List Iv} {k : Nat} (h0 : k ≠ 0) (h : k < R.length) : tlY Y R (k + 1) = tlY Y R k ++ [R.getD k Iv.zero] := by
  unfold tlY
  rw [if_neg (by omega), if_neg h0, List.take_succ_eq_append_getElem h, List.drop_append_of_le_length (by rw [List.length_take]; omega)]
  simp [h]
theorem tlY_end {Y : Iv} {R : List Iv} (h : 1 ≤ R.length) : tlY Y R R.length = Y :: R.drop 1 := by
  unfold tlY
  rw [if_neg (by omega), List.take_length]
set_option maxHeartbeats 16000000 in
set_option maxRecDepth 8000 in
theorem rJoin_any (w : World) (l r : Pv) (aS : Option Addr) (cs : Nat) (s : List Nat) (hl : Pj w l) (hr : Pj w r) (hB : Bs w aS s) (hsl : s.length ≤ 140737488355264) :
    Calls Try.prog 31 #[l.vl, r.vl, .slice aS s.length cs] w fun e w' => ∃ q : Pv, e = .returned (.tuple #[q.vl, .bool (joi l.pg r.pg s).2]) ∧ Pn w w' q ∧ q.pg = (joi l.pg r.pg s).1 ∧ Below w.heap.size w w' := by
  have hL1 := hl.n
  have hL2 := hr.n
  have JL := hide hl.i.it
  have JR := hide hr.i.it
  have SL := hide hl.s
  have SR := hide hr.s
  have RW := hide fun (W : World) (hb : Below w.heap.size w W) (a : Option Addr) (n c : Nat) (M : List Iv) (hJ : Js W a M) (hn : n = M.length) (hs : Sml M) => rwith_any W l a n c M (hl.keep hb) hJ hn hs
  have KY := hide fun (W : World) (hb : Below w.heap.size w W) (x : Iv) (hx : Ii W x) (hxs : x.key.length ≤ 140737488355264 ∧ x.val.length ≤ 140737488355264) => keyed_any W x aS cs s hx hxs (hB.keep hb) hsl
  have HSL := hide hsl
  clear hl hr hB hsl
  obtain ⟨kind, level, aI, cI, L, aD, cD, data, next⟩ := l
  obtain ⟨kind2, level2, aI2, cI2, R, aD2, cD2, data2, next2⟩ := r
  unfold Pv.vl at RW ⊢
  simp only [Pv.cs] at RW hL1 hL2 JL JR SL SR ⊢
  obtain ⟨m, hm⟩ : ∃ m, L.length = m := ⟨_, rfl⟩
  obtain ⟨m2, hm2⟩ : ∃ m2, R.length = m2 := ⟨_, rfl⟩
  have HM := hide hm
  have HM2 := hide hm2
  obtain ⟨A, hA⟩ : ∃ A, alk (Pv.pg ⟨kind, level, aI, cI, L, aD, cD, data, next⟩) (Pv.pg ⟨kind2, level2, aI2, cI2, R, aD2, cD2, data2, next2⟩) = A := ⟨_, rfl⟩
  have HA : Hid (A = (mnt kind && decide (kind = kind2) && decide (level = level2))) := hA.symm
  have EJ : Hid (joi (Pv.pg ⟨kind, level, aI, cI, L, aD, cD, data, next⟩) (Pv.pg ⟨kind2, level2, aI2, cI2, R, aD2, cD2, data2, next2⟩) s = if A = true ∧ 1 ≤ m ∧ 1 ≤ m2 ∧ m + m2 ≤ 8 then ((Pv.pg ⟨kind, level, aI, cI, L, aD, cD, data, next⟩).wi (jnd (Pv.pg ⟨kind, level, aI, cI, L, aD, cD, data, next⟩) (Pv.pg ⟨kind2, level2, aI2, cI2, R, aD2, cD2, data2, next2⟩) s), true) else (Pg.zero, false)) := by
    show _ = _
    have e1 : (Pv.pg ⟨kind, level, aI, cI, L, aD, cD, data, next⟩).items.length = m := by rw [← hm]; exact List.length_map _
    have e2 : (Pv.pg ⟨kind2, level2, aI2, cI2, R, aD2, cD2, data2, next2⟩).items.length = m2 := by rw [← hm2]; exact List.length_map _
    unfold joi
    rw [e1, e2, hA]
  have JE := hide fun (x : Iv) (h : x.it = if kind2 = 2 then ((R.getD 0 Iv.zero).it).keyed s else (R.getD 0 Iv.zero).it) => jnd_eq ⟨kind, level, aI, cI, L, aD, cD, data, next⟩ ⟨kind2, level2, aI2, cI2, R, aD2, cD2, data2, next2⟩ s x h
  simp only at JE
  rw [EJ.out]
  obtain ⟨JJ, hJJ⟩ : ∃ J, (Pv.pg ⟨kind, level, aI, cI, L, aD, cD, data, next⟩).wi (jnd (Pv.pg ⟨kind, level, aI, cI, L, aD, cD, data, next⟩) (Pv.pg ⟨kind2, level2, aI2, cI2, R, aD2, cD2, data2, next2⟩) s) = J := ⟨_, rfl⟩
  have HJJ := hide hJJ
  rw [hJJ]
  clear hJJ
  simp only [hm, hm2] at RW hL1 hL2 ⊢
  clear hm hm2 hA EJ
  have ME := hide fun (W : World) => meant_any W kind
  have U3 := hide (three_blocks w (.cells #[.int .i64 kind, .int .i64 level, .slice aI m cI, .slice aD data.length cD, .int .i64 next] 25) (.cells #[.int .i64 kind2, .int .i64 level2, .slice aI2 m2 cI2, .slice aD2 data2.length cD2, .int .i64 next2] 25) (.cells #[.int .i64 0, .int .i64 0, .slice none 0 0, .slice none 0 0, .int .i64 0] 25))
  cases hk : mnt kind with
  | false =>
    rw [hk] at ME
    have AF : Hid (A = false) := by show _ = _; rw [HA.out, hk]; rfl
    clear hk
    rw [if_neg (fun h => by have := h.1; rw [AF.out] at this; cases this)]
    clear RW KY JE HA
    go_enter Try.func31, Try.ntmps31
    go_wp2_with fail
    refine (ME.out _).mono ?_
    rintro _ w3 ⟨rfl, h3⟩
    have BP := hide (blk_keep U3.out.1 h3)
    have BQ := hide (blk_keep U3.out.2.1 h3)
    have HX := hide (blk_keep U3.out.2.2.1 h3)
    have AB := hide (bt U3.out.2.2.2 h3)
    clear h3 U3 ME
    obtain ⟨x0, x1, x2, x3, x4⟩ := cells5 BP.out
    obtain ⟨y0, y1, y2, y3, y4⟩ := cells5 BQ.out
    go_wp2_with (first | (refine wpList_store_row rfl 25 _ _ rfl (w.heap.size + 2) _ rfl rfl 25 _ HX.out sizePage rfl (by simp [Value.oneCell']) ?_) | fail)
    refine bodyPost_ret (v := .tuple #[.agg _, _]) (results_cell_one Try.results31 _ _ (w.heap.size + 2) 25 _ (0, 0) _ rfl (setRow_heap _ _ _ _ _ _ HX.out) Try.underlying25 rfl sizePage) rfl ?_
    exact ⟨Pv.zero, rfl, Pn.zero _ _, rfl, below_row _ AB.out (by omega)⟩
  | true =>
  rw [hk] at ME
  by_cases h1 : kind = kind2
  · subst h1
    by_cases h2 : level = level2
    · subst h2
      have AT : Hid (A = true) := by show _ = _; rw [HA.out, hk]; simp
      clear hk
      by_cases h3 : 1 ≤ m
      · have d3 : decide ((m : Int) < 1) = false := decide_eq_false (by omega)
        have d3n : decide (m < 1) = false := decide_eq_false (by omega)
        by_cases h4 : 1 ≤ m2
        · have d4 : decide ((m2 : Int) < 1) = false := decide_eq_false (by omega)
          have d4n : decide (m2 < 1) = false := decide_eq_false (by omega)
          by_cases h5 : m + m2 ≤ 8
          · have d5 : decide (8 < (m : Int) + (m2 : Int)) = false := decide_eq_false (by omega)
            rw [if_pos ⟨AT.out, h3, h4, h5⟩]
            clear HA AT
            go_enter Try.func31, Try.ntmps31
            go_wp2_with fail
            refine (ME.out _).mono ?_
            rintro _ w3 ⟨rfl, h3⟩
            have BP := hide (blk_keep U3.out.1 h3)
            have BQ := hide (blk_keep U3.out.2.1 h3)
            have HX := hide (blk_keep U3.out.2.2.1 h3)
            have AB := hide (bt U3.out.2.2.2 h3)
            clear h3 U3 ME
            obtain ⟨x0, x1, x2, x3, x4⟩ := cells5 BP.out
            obtain ⟨y0, y1, y2, y3, y4⟩ := cells5 BQ.out
            go_wp2_with fail
            clear x0 x1 x2 x3 x4 y0 y1 y2 y3 y4
            go_loopw [8, 9] (fun o i wx => ∃ (k : Nat) (ak : Option Addr) (ck : Nat), k ≤ m ∧ i = .int .i64 k ∧ o = .slice ak k ck ∧ JOwn w3 wx ak ck (L.take k)) (fun _ i _ => m - (intOf i).toNat)
            case atStart => exact ⟨0, none, 0, Nat.zero_le _, rfl, rfl, by rw [List.take_zero]; exact JOwn.nil _ (Below.refl _ _)⟩
            case round =>
              obtain ⟨k, ak, ck, hk, rfl, rfl, hO⟩ := hrel
              have O0 := hide hO
              obtain ⟨x0, x1, x2, x3, x4⟩ := cells5 (blk_keep BP.out hO.b)
              clear hO
              by_cases hlt : k < m
              · have hlti : (k : Int) < (m : Int) := by omega
                have hkL : k < L.length := by rw [HM.out]; exact hlt
                have LK : Hid (k = (L.take k).length) := by show _ = _; rw [List.length_take]; omega
                have T3 := hide (take_nx (L := L) hkL)
                obtain ⟨bI, off, rfl, hr⟩ := (JL.out.keep (bt AB.out O0.out.b)).at hkL
                obtain ⟨k0, k1, k2, k3⟩ := range4 hr
                have hbl : bI < wr.heap.size := block_lt_of_cell k0
                have J2 := hide (O0.out.r.keep (al wr (.cells (L.getD k Iv.zero).cs 37)))
                have BX := hide (box_item wr (L.getD k Iv.zero) wr.heap.size rfl)
                have hml : (L.take k).length + 1 ≤ 2199023255520 := by rw [← LK.out]; omega
                have ST := hide fun (W2 : World) (g c2 : Nat) (hJ : Jw W2 (some ⟨g, 0, none⟩) c2 (L.take k ++ [L.getD k Iv.zero])) (hN : New (wr.alloc (.cells (L.getD k Iv.zero).cs 37)) ak (some ⟨g, 0, none⟩)) (hg : (wr.alloc (.cells (L.getD k Iv.zero).cs 37)).grownBy W2 (ak.map Addr.block)) => O0.out.step (al wr _) hJ hN hg
                clear hr
                generalize L.getD k Iv.zero = v at *
                obtain ⟨aK, cK, key, aV, cV, val, child, size⟩ := v
                simp only [Iv.cs] at k0 k1 k2 k3 J2 BX ST
                go_wp2_with (at_builtin; refine wpList_apJ rfl _ _ rfl ak k ck (L.take k) rfl LK.out J2.out ⟨_, 0, none⟩ 1 ⟨aK, cK, key, aV, cV, val, child, size⟩ rfl BX.out hml ?_)
                intro g2 c2 w8 hJ hN hg
                have O2 := hide (ST.out _ _ _ hJ hN hg)
                rw [← T3.out] at O2
                clear hJ hN hg ST
                go_wp2
                go_roundw
                case rel => exact ⟨k + 1, some ⟨g2, 0, none⟩, c2, by omega, by go_num, rfl, O2.out⟩
                case measure => simp [intOf]; omega
              · obtain rfl : k = m := by omega
                have OL : Hid (JOwn w3 wr ak ck L) := by have := O0.out; rw [← HM.out, List.take_length] at this; exact this
                clear O0
                go_wp2_with fail
                clear x0 x1 x2 x3 x4
                go_loopw [8, 10] (fun o i wx => ∃ (j : Nat) (aj : Option Addr) (cj : Nat) (Y : Iv), j ≤ m2 ∧ i = .int .i64 j ∧ o = .slice aj (k + j) cj ∧ JOwn w3 wx aj cj (L ++ tlY Y R j) ∧ (0 < j → (Yo wx Y ∨ Ii w3 Y) ∧ Y.it = (if kind = 2 then ((R.getD 0 Iv.zero).it).keyed s else (R.getD 0 Iv.zero).it) ∧ Sml [Y])) (fun _ i _ => m2 - (intOf i).toNat)
                case atStart => exact ⟨0, ak, ck, Iv.zero, Nat.zero_le _, rfl, rfl, by unfold tlY; rw [if_pos rfl, List.append_nil]; exact OL.out, fun h => absurd h (Nat.lt_irrefl 0)⟩
                case round =>
                  clear OL
                  obtain ⟨j, aj, cj, Y, hj, rfl, rfl, hO, hY⟩ := hrel
                  have O0 := hide hO
                  have Y0 := hide hY
                  obtain ⟨x0, x1, x2, x3, x4⟩ := cells5 (blk_keep BP.out hO.b)
                  obtain ⟨y0, y1, y2, y3, y4⟩ := cells5 (blk_keep BQ.out hO.b)
                  have LJ : Hid (k + j = (L ++ tlY Y R j).length) := by show _ = _; rw [List.length_append, tlY_len (by rw [HM2.out]; exact hj), HM.out]
                  clear hO hY
                  by_cases hlt : j < m2
                  · have hlti : (j : Int) < (m2 : Int) := by omega
                    have hjR : j < R.length := by rw [HM2.out]; exact hlt
                    obtain ⟨bI, off, rfl, hr⟩ := (JR.out.keep (bt AB.out O0.out.b)).at hjR
                    obtain ⟨k0, k1, k2, k3⟩ := range4 hr
                    have hbl : bI < wr.heap.size := block_lt_of_cell k0
                    have hml : (L ++ tlY Y R j).length + 1 ≤ 2199023255520 := by rw [← LJ.out]; omega
                    have IJ := hide ((JR.out.1 _ (getD_memR hjR)))
                    have SJ := hide (SR.out _ (getD_memR hjR))
                    clear hr
                    by_cases hz : j = 0 ∧ kind = 2
                    · obtain ⟨rfl, hkk⟩ := hz
                      have hkb : (kind == 2) = true := by simpa using hkk
                      have HK := hide hkk
                      clear hkk
                      have KYY := hide (KY.out wr (bt AB.out O0.out.b) (R.getD 0 Iv.zero) (IJ.out.keep (bt AB.out O0.out.b)) SJ.out)
                      unfold Iv.vl at KYY
                      simp only [Iv.cs, Nat.zero_mul, Nat.add_zero] at KYY k0 k1 k2 k3
                      generalize hg0 : R.getD 0 Iv.zero = v at *
                      obtain ⟨aK, cK, key, aV, cV, val, child, size⟩ := v
                      simp only at k0 k1 k2 k3 KYY
                      have HG0 := hide hg0
                      clear hg0
                      go_wp2_with fail
                      refine KYY.out.mono ?_
                      rintro _ w5 ⟨y, rfl, hy, ey, b5⟩
                      have YY := hide (hy.keep (al w5 (.cells #[.slice y.aK y.key.length y.cK, .slice y.aV y.val.length y.cV, .int .i64 y.child, .int .i64 y.size] 37)))
                      have EY := hide ey
                      have O5 := hide (O0.out.keep b5)
                      have J2 := hide (O5.out.r.keep (al w5 (.cells #[.slice y.aK y.key.length y.cK, .slice y.aV y.val.length y.cV, .int .i64 y.child, .int .i64 y.size] 37)))
                      have BX := hide (box_item w5 y w5.heap.size rfl)
                      simp only [Iv.cs] at BX
                      clear hy ey b5 KYY k0 k1 k2 k3
                      go_wp2_with (at_builtin; refine wpList_apJ rfl _ _ rfl aj (k + 0) cj (L ++ tlY Y R 0) rfl LJ.out J2.out ⟨_, 0, none⟩ 1 y rfl BX.out hml ?_)
                      intro g3 c3 w9 hJ hN hg
                      have O3 := hide (O5.out.step (al w5 _) hJ hN hg)
                      have Y3 := hide (YY.out.grown J2.out hg)
                      clear hJ hN hg
                      go_wp2
                      go_roundw
                      case rel => exact ⟨1, some ⟨g3, 0, none⟩, c3, y, by omega, by go_num, by first | rfl | simp, (by have := O3.out; have e1 : L ++ tlY y R 1 = L ++ tlY Y R 0 ++ [y] := (by unfold tlY; rw [if_neg (by decide), if_pos rfl, List.append_nil, show (R.take 1).drop 1 = [] from List.drop_eq_nil_of_le (by rw [List.length_take]; omega)]); rw [e1]; first | exact this | (rw [List.append_assoc]; exact this)), fun _ => ⟨.inl Y3.out, by rw [if_pos HK.out]; first | exact EY.out | (rw [HG0.out]; exact EY.out), Sml.one ⟨by rw [show y.key = s from congrArg It.key EY.out]; exact HSL.out, by rw [show y.val = val from congrArg It.val EY.out]; exact SJ.out.2⟩⟩⟩
                      case measure => simp [intOf]; omega
                    · by_cases hj0 : j = 0
                      · have hjb : (kind == 2) = false := by simpa using (fun h => hz ⟨hj0, h⟩ : ¬ kind = 2)
                        have hjc : ((j : Int) == 0) = true := by simp [hj0]
                        have HJ0 := hide hj0
                        clear hj0
                        have YN : Hid (0 < j + 1 → (Yo wr (if j = 0 then R.getD 0 Iv.zero else Y) ∨ Ii w3 (if j = 0 then R.getD 0 Iv.zero else Y)) ∧ (if j = 0 then R.getD 0 Iv.zero else Y).it = (if kind = 2 then ((R.getD 0 Iv.zero).it).keyed s else (R.getD 0 Iv.zero).it) ∧ Sml [if j = 0 then R.getD 0 Iv.zero else Y]) := fun _ => by
                          by_cases h0 : j = 0
                          · subst h0
                            rw [if_pos rfl, if_neg (fun h => hz ⟨rfl, h⟩)]
                            exact ⟨.inr (IJ.out.keep AB.out), rfl, Sml.one SJ.out⟩
                          · rw [if_neg h0]; exact Y0.out (by omega)
                        have TE : Hid (L ++ tlY (if j = 0 then R.getD 0 Iv.zero else Y) R (j + 1) = (L ++ tlY Y R j) ++ [R.getD j Iv.zero]) := by
                          show _ = _
                          by_cases h0 : j = 0
                          · subst h0
                            unfold tlY
                            rw [if_pos rfl, if_neg (by omega), if_pos rfl, List.append_nil, show (R.take (0 + 1)).drop 1 = [] from List.drop_eq_nil_of_le (by rw [List.length_take]; omega)]
                          · rw [if_neg h0, tlY_nx h0 hjR, List.append_assoc]
                        have J2 := hide (O0.out.r.keep (al wr (.cells (R.getD j Iv.zero).cs 37)))
                        have BX := hide (box_item wr (R.getD j Iv.zero) wr.heap.size rfl)
                        have ST := hide fun (W2 : World) (g c2 : Nat) (hJ : Jw W2 (some ⟨g, 0, none⟩) c2 ((L ++ tlY Y R j) ++ [R.getD j Iv.zero])) (hN : New (wr.alloc (.cells (R.getD j Iv.zero).cs 37)) aj (some ⟨g, 0, none⟩)) (hg : (wr.alloc (.cells (R.getD j Iv.zero).cs 37)).grownBy W2 (aj.map Addr.block)) => And.intro (O0.out.step (al wr _) hJ hN hg) (fun (y : Iv) (hy : Yo wr y) => (hy.keep (al wr (.cells (R.getD j Iv.zero).cs 37))).grown J2.out hg)
                        clear hz IJ SJ
                        generalize (if j = 0 then R.getD 0 Iv.zero else Y) = Y2 at *
                        generalize R.getD j Iv.zero = v at *
                        obtain ⟨aK, cK, key, aV, cV, val, child, size⟩ := v
                        simp only [Iv.cs] at k0 k1 k2 k3 J2 BX ST
                        go_wp2_with (at_builtin; refine wpList_apJ rfl _ _ rfl aj (k + j) cj (L ++ tlY Y R j) rfl LJ.out J2.out ⟨_, 0, none⟩ 1 ⟨aK, cK, key, aV, cV, val, child, size⟩ rfl BX.out hml ?_)
                        intro g3 c3 w9 hJ hN hg
                        obtain ⟨o3, y3⟩ := ST.out w9 g3 c3 (by first | exact hJ | (rw [List.append_assoc]; exact hJ)) hN hg
                        have O3 := hide o3
                        have Y3 := hide y3
                        rw [← TE.out] at O3
                        clear hJ hN hg ST o3 y3
                        go_wp2
                        go_roundw
                        case rel => exact ⟨j + 1, some ⟨g3, 0, none⟩, c3, Y2, by omega, by go_num, by rw [Nat.add_assoc], O3.out, fun h => ⟨(YN.out h).1.imp (Y3.out Y2) id, (YN.out h).2⟩⟩
                        case measure => simp [intOf]; omega
                      · have hjc : ((j : Int) == 0) = false := by simpa using hj0
                        have HJ0 := hide hj0
                        clear hj0
                        have YN : Hid (0 < j + 1 → (Yo wr (if j = 0 then R.getD 0 Iv.zero else Y) ∨ Ii w3 (if j = 0 then R.getD 0 Iv.zero else Y)) ∧ (if j = 0 then R.getD 0 Iv.zero else Y).it = (if kind = 2 then ((R.getD 0 Iv.zero).it).keyed s else (R.getD 0 Iv.zero).it) ∧ Sml [if j = 0 then R.getD 0 Iv.zero else Y]) := fun _ => by
                          by_cases h0 : j = 0
                          · subst h0
                            rw [if_pos rfl, if_neg (fun h => hz ⟨rfl, h⟩)]
                            exact ⟨.inr (IJ.out.keep AB.out), rfl, Sml.one SJ.out⟩
                          · rw [if_neg h0]; exact Y0.out (by omega)
                        have TE : Hid (L ++ tlY (if j = 0 then R.getD 0 Iv.zero else Y) R (j + 1) = (L ++ tlY Y R j) ++ [R.getD j Iv.zero]) := by
                          show _ = _
                          by_cases h0 : j = 0
                          · subst h0
                            unfold tlY
                            rw [if_pos rfl, if_neg (by omega), if_pos rfl, List.append_nil, show (R.take (0 + 1)).drop 1 = [] from List.drop_eq_nil_of_le (by rw [List.length_take]; omega)]
                          · rw [if_neg h0, tlY_nx h0 hjR, List.append_assoc]
                        have J2 := hide (O0.out.r.keep (al wr (.cells (R.getD j Iv.zero).cs 37)))
                        have BX := hide (box_item wr (R.getD j Iv.zero) wr.heap.size rfl)
                        have ST := hide fun (W2 : World) (g c2 : Nat) (hJ : Jw W2 (some ⟨g, 0, none⟩) c2 ((L ++ tlY Y R j) ++ [R.getD j Iv.zero])) (hN : New (wr.alloc (.cells (R.getD j Iv.zero).cs 37)) aj (some ⟨g, 0, none⟩)) (hg : (wr.alloc (.cells (R.getD j Iv.zero).cs 37)).grownBy W2 (aj.map Addr.block)) => And.intro (O0.out.step (al wr _) hJ hN hg) (fun (y : Iv) (hy : Yo wr y) => (hy.keep (al wr (.cells (R.getD j Iv.zero).cs 37))).grown J2.out hg)
                        clear hz IJ SJ
                        generalize (if j = 0 then R.getD 0 Iv.zero else Y) = Y2 at *
                        generalize R.getD j Iv.zero = v at *
                        obtain ⟨aK, cK, key, aV, cV, val, child, size⟩ := v
                        simp only [Iv.cs] at k0 k1 k2 k3 J2 BX ST
                        go_wp2_with (at_builtin; refine wpList_apJ rfl _ _ rfl aj (k + j) cj (L ++ tlY Y R j) rfl LJ.out J2.out ⟨_, 0, none⟩ 1 ⟨aK, cK, key, aV, cV, val, child, size⟩ rfl BX.out hml ?_)
                        intro g3 c3 w9 hJ hN hg
                        obtain ⟨o3, y3⟩ := ST.out w9 g3 c3 (by first | exact hJ | (rw [List.append_assoc]; exact hJ)) hN hg
                        have O3 := hide o3
                        have Y3 := hide y3
                        rw [← TE.out] at O3
                        clear hJ hN hg ST o3 y3
                        go_wp2
                        go_roundw
                        case rel => exact ⟨j + 1, some ⟨g3, 0, none⟩, c3, Y2, by omega, by go_num, by rw [Nat.add_assoc], O3.out, fun h => ⟨(YN.out h).1.imp (Y3.out Y2) id, (YN.out h).2⟩⟩
                        case measure => simp [intOf]; omega
                  · obtain rfl : j = m2 := by omega
                    obtain ⟨yk, ye, ys⟩ := Y0.out (by omega)
                    have TE : Hid (tlY Y R j = Y :: R.drop 1) := by show _ = _; rw [← HM2.out]; exact tlY_end (by rw [HM2.out]; exact h4)
                    have PJ : Hid (JJ = (Pv.pg ⟨kind, level, aI, cI, L, aD, cD, data, next⟩).wi ((L ++ Y :: R.drop 1).map Iv.it)) := by show _ = _; rw [← HJJ.out, JE.out Y ye]
                    have OE := O0.out
                    rw [TE.out] at OE LJ
                    have YI : Ii wr Y := by
                      rcases yk with h | h
                      · exact h.ii
                      · exact h.keep OE.b
                    have JQ := hide (OE.r.qs (fun x hx => by
                      rcases List.mem_append.1 hx with hx | hx
                      · exact (JL.out.1 x hx).keep (bt AB.out OE.b)
                      · rcases List.mem_cons.1 hx with rfl | hx
                        · exact YI
                        · exact (JR.out.1 x (List.mem_of_mem_drop hx)).keep (bt AB.out OE.b)) (by rw [← LJ.out]; omega))
                    have RWW := hide (RW.out wr (bt AB.out OE.b) aj (k + j) cj _ JQ.out LJ.out (fun x hx => by
                      rcases List.mem_append.1 hx with hx | hx
                      · exact SL.out x hx
                      · rcases List.mem_cons.1 hx with rfl | hx
                        · exact ys x (List.mem_singleton.2 rfl)
                        · exact SR.out x (List.mem_of_mem_drop hx)))
                    have BB := hide (bt AB.out OE.b)
                    have HX2 := hide (blk_keep HX.out OE.b)
                    clear OE JQ YI yk ye ys TE LJ
                    go_wp2_with fail
                    refine RWW.out.mono ?_
                    rintro _ w9 ⟨q, rfl, hq, hg, hb⟩
                    have Q := hide (hq.pre BB.out.size)
                    have G := hide hg
                    have B10 := hide (bt BB.out hb)
                    have HX3 := hide (blk_keep HX2.out hb)
                    clear hq hg hb RWW x0 x1 x2 x3 x4 y0 y1 y2 y3 y4
                    go_wp2_with (first | (refine wpList_store_row rfl 25 _ _ rfl (w.heap.size + 2) _ rfl rfl 25 _ HX3.out sizePage rfl (by simp [Value.oneCell']) ?_) | fail)
                    refine bodyPost_ret (v := .tuple #[.agg _, _]) (results_cell_one Try.results31 _ _ (w.heap.size + 2) 25 _ (0, 0) _ rfl (setRow_heap _ _ _ _ _ _ HX3.out) Try.underlying25 rfl sizePage) rfl ?_
                    exact ⟨q, rfl, Q.out.row HX3.out (by decide) (by decide) _, by rw [PJ.out]; exact G.out, below_row _ B10.out (by omega)⟩
          · have d5 : decide (8 < (m : Int) + (m2 : Int)) = true := decide_eq_true (by omega)
            rw [if_neg (fun h => h5 h.2.2.2)]
            clear RW KY JE HA
            go_enter Try.func31, Try.ntmps31
            go_wp2_with fail
            refine (ME.out _).mono ?_
            rintro _ w3 ⟨rfl, h3⟩
            have BP := hide (blk_keep U3.out.1 h3)
            have BQ := hide (blk_keep U3.out.2.1 h3)
            have HX := hide (blk_keep U3.out.2.2.1 h3)
            have AB := hide (bt U3.out.2.2.2 h3)
            clear h3 U3 ME
            obtain ⟨x0, x1, x2, x3, x4⟩ := cells5 BP.out
            obtain ⟨y0, y1, y2, y3, y4⟩ := cells5 BQ.out
            go_wp2_with (first | (refine wpList_store_row rfl 25 _ _ rfl (w.heap.size + 2) _ rfl rfl 25 _ HX.out sizePage rfl (by simp [Value.oneCell']) ?_) | fail)
            refine bodyPost_ret (v := .tuple #[.agg _, _]) (results_cell_one Try.results31 _ _ (w.heap.size + 2) 25 _ (0, 0) _ rfl (setRow_heap _ _ _ _ _ _ HX.out) Try.underlying25 rfl sizePage) rfl ?_
            exact ⟨Pv.zero, rfl, Pn.zero _ _, rfl, below_row _ AB.out (by omega)⟩
        · have d4 : decide ((m2 : Int) < 1) = true := decide_eq_true (by omega)
          have d4n : decide (m2 < 1) = true := decide_eq_true (by omega)
          rw [if_neg (fun h => h4 h.2.2.1)]
          clear RW KY JE HA
          go_enter Try.func31, Try.ntmps31
          go_wp2_with fail
          refine (ME.out _).mono ?_
          rintro _ w3 ⟨rfl, h3⟩
          have BP := hide (blk_keep U3.out.1 h3)
          have BQ := hide (blk_keep U3.out.2.1 h3)
          have HX := hide (blk_keep U3.out.2.2.1 h3)
          have AB := hide (bt U3.out.2.2.2 h3)
          clear h3 U3 ME
          obtain ⟨x0, x1, x2, x3, x4⟩ := cells5 BP.out
          obtain ⟨y0, y1, y2, y3, y4⟩ := cells5 BQ.out
          go_wp2_with (first | (refine wpList_store_row rfl 25 _ _ rfl (w.heap.size + 2) _ rfl rfl 25 _ HX.out sizePage rfl (by simp [Value.oneCell']) ?_) | fail)
          refine bodyPost_ret (v := .tuple #[.agg _, _]) (results_cell_one Try.results31 _ _ (w.heap.size + 2) 25 _ (0, 0) _ rfl (setRow_heap _ _ _ _ _ _ HX.out) Try.underlying25 rfl sizePage) rfl ?_
          exact ⟨Pv.zero, rfl, Pn.zero _ _, rfl, below_row _ AB.out (by omega)⟩
      · have d3 : decide ((m : Int) < 1) = true := decide_eq_true (by omega)
        have d3n : decide (m < 1) = true := decide_eq_true (by omega)
        rw [if_neg (fun h => h3 h.2.1)]
        clear RW KY JE HA
        go_enter Try.func31, Try.ntmps31
        go_wp2_with fail
        refine (ME.out _).mono ?_
        rintro _ w3 ⟨rfl, h3⟩
        have BP := hide (blk_keep U3.out.1 h3)
        have BQ := hide (blk_keep U3.out.2.1 h3)
        have HX := hide (blk_keep U3.out.2.2.1 h3)
        have AB := hide (bt U3.out.2.2.2 h3)
        clear h3 U3 ME
        obtain ⟨x0, x1, x2, x3, x4⟩ := cells5 BP.out
        obtain ⟨y0, y1, y2, y3, y4⟩ := cells5 BQ.out
        go_wp2_with (first | (refine wpList_store_row rfl 25 _ _ rfl (w.heap.size + 2) _ rfl rfl 25 _ HX.out sizePage rfl (by simp [Value.oneCell']) ?_) | fail)
        refine bodyPost_ret (v := .tuple #[.agg _, _]) (results_cell_one Try.results31 _ _ (w.heap.size + 2) 25 _ (0, 0) _ rfl (setRow_heap _ _ _ _ _ _ HX.out) Try.underlying25 rfl sizePage) rfl ?_
        exact ⟨Pv.zero, rfl, Pn.zero _ _, rfl, below_row _ AB.out (by omega)⟩
    · have h2b : (level != level2) = true := by simpa using h2
      have AF : Hid (A = false) := by show _ = _; rw [HA.out]; simp [h2]
      clear hk h2
      rw [if_neg (fun h => by have := h.1; rw [AF.out] at this; cases this)]
      clear RW KY JE HA
      go_enter Try.func31, Try.ntmps31
      go_wp2_with fail
      refine (ME.out _).mono ?_
      rintro _ w3 ⟨rfl, h3⟩
      have BP := hide (blk_keep U3.out.1 h3)
      have BQ := hide (blk_keep U3.out.2.1 h3)
      have HX := hide (blk_keep U3.out.2.2.1 h3)
      have AB := hide (bt U3.out.2.2.2 h3)
      clear h3 U3 ME
      obtain ⟨x0, x1, x2, x3, x4⟩ := cells5 BP.out
      obtain ⟨y0, y1, y2, y3, y4⟩ := cells5 BQ.out
      go_wp2_with (first | (refine wpList_store_row rfl 25 _ _ rfl (w.heap.size + 2) _ rfl rfl 25 _ HX.out sizePage rfl (by simp [Value.oneCell']) ?_) | fail)
      refine bodyPost_ret (v := .tuple #[.agg _, _]) (results_cell_one Try.results31 _ _ (w.heap.size + 2) 25 _ (0, 0) _ rfl (setRow_heap _ _ _ _ _ _ HX.out) Try.underlying25 rfl sizePage) rfl ?_
      exact ⟨Pv.zero, rfl, Pn.zero _ _, rfl, below_row _ AB.out (by omega)⟩
  · have h1b : (kind != kind2) = true := by simpa using h1
    have AF : Hid (A = false) := by show _ = _; rw [HA.out]; simp [h1]
    clear hk h1
    rw [if_neg (fun h => by have := h.1; rw [AF.out] at this; cases this)]
    clear RW KY JE HA
    go_enter Try.func31, Try.ntmps31
    go_wp2_with fail
    refine (ME.out _).mono ?_
    rintro _ w3 ⟨rfl, h3⟩
    have BP := hide (blk_keep U3.out.1 h3)
    have BQ := hide (blk_keep U3.out.2.1 h3)
    have HX := hide (blk_keep U3.out.2.2.1 h3)
    have AB := hide (bt U3.out.2.2.2 h3)
    clear h3 U3 ME
    obtain ⟨x0, x1, x2, x3, x4⟩ := cells5 BP.out
    obtain ⟨y0, y1, y2, y3, y4⟩ := cells5 BQ.out
    go_wp2_with (first | (refine wpList_store_row rfl 25 _ _ rfl (w.heap.size + 2) _ rfl rfl 25 _ HX.out sizePage rfl (by simp [Value.oneCell']) ?_) | fail)
    refine bodyPost_ret (v := .tuple #[.agg _, _]) (results_cell_one Try.results31 _ _ (w.heap.size + 2) 25 _ (0, 0) _ rfl (setRow_heap _ _ _ _ _ _ HX.out) Try.underlying25 rfl sizePage) rfl ?_
    exact ⟨Pv.zero, rfl, Pn.zero _ _, rfl, below_row _ AB.out (by omega)⟩
end Go.Proofs.Ytljafmkehfnldaa
