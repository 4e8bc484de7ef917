import Derived.Test.YtmfelkncomfipaaDWN
import Derived.Test.YtmfelkncomfipaaDL
namespace Go.Proofs.Ytmfelkncomfipaa
set_option linter.unusedVariables false
set_option linter.unusedSimpArgs false
open Go.RowKit
theorem Bs.butS {S : Nat → Prop} {w w' : World} {a : Option Addr} {l : List Nat} (h : Bs w a l) (hb : But S w w') (hn : ∀ x, a = some x → ¬ S x.block) : Bs w' a l :=
  ⟨h.1, h.2.1, h.2.2.imp id (fun ⟨b, o, e, hc⟩ => ⟨b, o, e, fun i hi => by have k := hc i hi; have hl := block_lt_of_cell k; exact (but_cell hb (hn _ e) hl).trans k⟩)⟩
set_option maxHeartbeats 64000000 in
set_option maxRecDepth 16000 in
theorem rLend_any (w : World) (l r : Pv) (aS : Option Addr) (cs : Nat) (s : List Nat) (t : Bool) (hl : Pj w l) (hr : Pj w r) (hB : Bs w aS s) (hc : s.length ≤ cs) (hsl : s.length ≤ 140737488355264) :
    Calls Try.prog 10 #[l.vl, r.vl, .slice aS s.length cs, .bool t] w fun e w' => ∃ (q1 q2 : Pv) (a : Option Addr) (c : Nat), e = .returned (.tuple #[q1.vl, q2.vl, .slice a (lend l.pg r.pg s t).s.length c, .bool (lend l.pg r.pg s t).ok]) ∧ Pi w' q1 ∧ Pi w' q2 ∧ Bs w' a (lend l.pg r.pg s t).s ∧ q1.pg = (lend l.pg r.pg s t).l ∧ q2.pg = (lend l.pg r.pg s t).r ∧ Below w.heap.size w w' := by
  have hL1 := hl.n
  have hL2 := hr.n
  have JL := hide hl.i.it
  have JR := hide hr.i.it
  have SL := hide hl.s
  have SR := hide hr.s
  have RWL := hide fun (W : World) (hb : Below w.heap.size w W) (a : Option Addr) (n c : Nat) (M : List Iv) (hJ : Js W a M) (hn : n = M.length) (hs : Sml M) => rwith_any W l a n c M (hl.keep hb) hJ hn hs
  have RWR := hide fun (W : World) (hb : Below w.heap.size w W) (a : Option Addr) (n c : Nat) (M : List Iv) (hJ : Js W a M) (hn : n = M.length) (hs : Sml M) => rwith_any W r a n c M (hr.keep hb) hJ hn hs
  have CB := hide fun (W : World) (hb : Below w.heap.size w W) => CopyBytes_at W aS s.length cs s (hB.keep hb) rfl hsl
  have S8 := hide hB.1
  have SJ : Hid (∀ x ∈ jnd l.pg r.pg s, x.key.length ≤ 140737488355264 ∧ x.val.length ≤ 140737488355264) := jnd_sml hl.s hr.s hsl
  have JI := hide fun (h1 : 1 ≤ r.items.length) => jnd_items (l := l) (r := r) (s := s) h1
  clear hl hr hB hsl hc
  obtain ⟨kind, level, aI, cI, L, aD, cD, data, next⟩ := l
  obtain ⟨kind2, level2, aI2, cI2, R, aD2, cD2, data2, next2⟩ := r
  unfold Pv.vl at RWL RWR ⊢
  simp only [Pv.cs] at RWL RWR hL1 hL2 JL JR SL SR JI ⊢
  obtain ⟨m, hm⟩ : ∃ m, L.length = m := ⟨_, rfl⟩
  obtain ⟨m2, hm2⟩ : ∃ m2, R.length = m2 := ⟨_, rfl⟩
  have HM := hide hm
  have HM2 := hide hm2
  obtain ⟨A, hA⟩ : ∃ A, alk (Pv.pg ⟨kind, level, aI, cI, L, aD, cD, data, next⟩) (Pv.pg ⟨kind2, level2, aI2, cI2, R, aD2, cD2, data2, next2⟩) = A := ⟨_, rfl⟩
  obtain ⟨J, hJ⟩ : ∃ J, jnd (Pv.pg ⟨kind, level, aI, cI, L, aD, cD, data, next⟩) (Pv.pg ⟨kind2, level2, aI2, cI2, R, aD2, cD2, data2, next2⟩) s = J := ⟨_, rfl⟩
  obtain ⟨Z, hZ⟩ : ∃ Z, lend (Pv.pg ⟨kind, level, aI, cI, L, aD, cD, data, next⟩) (Pv.pg ⟨kind2, level2, aI2, cI2, R, aD2, cD2, data2, next2⟩) s t = Z := ⟨_, rfl⟩
  obtain ⟨nn, hnn⟩ : ∃ nn, (if t = true then m - 1 else m + 1) = nn := ⟨_, rfl⟩
  obtain ⟨Bm, hBm⟩ : ∃ b, (if t = true then mayL m m2 else mayL m2 m) = b := ⟨_, rfl⟩
  have HA : Hid (A = (mnt kind && decide (kind = kind2) && decide (level = level2))) := hA.symm
  have ZE : Hid (Z = if A = true ∧ Bm = true then prt ((Pv.pg ⟨kind, level, aI, cI, L, aD, cD, data, next⟩).wi (J.take nn)) ((Pv.pg ⟨kind2, level2, aI2, cI2, R, aD2, cD2, data2, next2⟩).wi (J.drop nn)) else Hv.none) := by
    show _ = _
    have e1 : (Pv.pg ⟨kind, level, aI, cI, L, aD, cD, data, next⟩).items.length = m := by rw [← hm]; exact List.length_map _
    have e2 : (Pv.pg ⟨kind2, level2, aI2, cI2, R, aD2, cD2, data2, next2⟩).items.length = m2 := by rw [← hm2]; exact List.length_map _
    rw [← hZ]
    unfold lend
    rw [hA, e1, e2, hJ, hBm, ← hnn]
    cases t <;> rfl
  have NB : Hid (Bm = true → 1 ≤ m ∧ 1 ≤ m2 ∧ 1 ≤ nn ∧ nn < m + m2 ∧ m + m2 ≤ 2199023255500) := fun h => by
    rw [← hBm] at h
    rw [← hnn]
    cases t
    · simp [mayL] at h ⊢; omega
    · simp [mayL] at h ⊢; omega
  have HN := hide hnn
  have HBm := hide hBm
  rw [hZ]
  rw [hJ] at SJ
  simp only [hJ] at JI
  simp only [hm, hm2] at RWL RWR hL1 hL2 JI ⊢
  clear hm hm2 hA hJ hZ hnn hBm
  have ME := hide fun (W : World) => meant_any W kind
  have LE1 := hide fun (W : World) => lends_any W m m2
  have LE2 := hide fun (W : World) => lends_any W m2 m
  have U4 := hide (four_blocks w (.cells #[.int .i64 kind, .int .i64 level, .slice aI m cI, .slice aD data.length cD, .int .i64 next] 25) (.cells #[.int .i64 kind2, .int .i64 level2, .slice aI2 m2 cI2, .slice aD2 data2.length cD2, .int .i64 next2] 25) (.cells #[.int .i64 0, .int .i64 0, .slice none 0 0, .slice none 0 0, .int .i64 0] 25) (.cells #[.int .i64 0, .int .i64 0, .slice none 0 0, .slice none 0 0, .int .i64 0] 25))
  cases hk : mnt kind with
  | false =>
    rw [hk] at ME
    have AF : Hid (A = false) := by show _ = _; rw [HA.out, hk]; rfl
    clear hk HA
    rw [if_neg (fun h => by have := h.1; rw [AF.out] at this; cases this)] at ZE
    clear RWL RWR CB SJ JI JL JR SL SR NB HN S8
    clear LE1 LE2 HBm
    go_enter Try.func10, Try.ntmps10
    go_wp2_with fail
    refine (ME.out _).mono ?_
    rintro _ w4 ⟨rfl, h4⟩
    have BP := hide (blk_keep U4.out.1 h4)
    have BQ := hide (blk_keep U4.out.2.1 h4)
    have BR1 := hide (blk_keep U4.out.2.2.1 h4)
    have BR2 := hide (blk_keep U4.out.2.2.2.1 h4)
    have B4 := hide (bt U4.out.2.2.2.2 h4)
    clear h4 U4 ME
    obtain ⟨x0, x1, x2, x3, x4⟩ := cells5 BP.out
    obtain ⟨y0, y1, y2, y3, y4⟩ := cells5 BQ.out
    have BX1 := hide (setRow_heap w4 (w.heap.size + 2) _ #[.int .i64 0, .int .i64 0, .slice none 0 0, .slice none 0 0, .int .i64 0] _ _ BR1.out)
    have BX2 := hide (row_far (W := w4) (g := w.heap.size + 2) #[.int .i64 0, .int .i64 0, .slice none 0 0, .slice none 0 0, .int .i64 0] BR2.out (by omega))
    have BY1 := hide (row_far (g := w.heap.size + 3) #[.int .i64 0, .int .i64 0, .slice none 0 0, .slice none 0 0, .int .i64 0] BX1.out (by omega))
    have BY2 := hide (setRow_heap _ (w.heap.size + 3) _ #[.int .i64 0, .int .i64 0, .slice none 0 0, .slice none 0 0, .int .i64 0] _ _ BX2.out)
    go_wp2_with (first | (refine wpList_store_row rfl 25 _ _ rfl (w.heap.size + 2) _ rfl rfl 25 _ BR1.out sizePage rfl (by simp [Value.oneCell']) ?_) | (refine wpList_store_row rfl 25 _ _ rfl (w.heap.size + 3) _ rfl rfl 25 _ BX2.out sizePage rfl (by simp [Value.oneCell']) ?_) | fail)
    refine bodyPost_ret (v := .tuple #[.agg _, .agg _, _, _]) (results_cells Try.results10 _ _ (w.heap.size + 2) (w.heap.size + 3) 25 25 _ _ (0, 0) (0, 0) _ rfl BY1.out rfl BY2.out Try.underlying25 rfl sizePage sizePage) rfl ?_
    rw [ZE.out]
    exact ⟨Pv.zero, Pv.zero, none, 0, rfl, Pi.zero _, Pi.zero _, Bs.nil _, rfl, rfl, below_row _ (below_row _ B4.out (by omega)) (by omega)⟩
  | true =>
  rw [hk] at ME
  by_cases h1 : kind = kind2
  · subst h1
    by_cases h2 : level = level2
    · subst h2
      have AT : Hid (A = true) := by show _ = _; rw [HA.out, hk]; simp
      clear hk HA
      go_enter Try.func10, Try.ntmps10
      go_wp2_with fail
      refine (ME.out _).mono ?_
      rintro _ w4 ⟨rfl, h4⟩
      have BP := hide (blk_keep U4.out.1 h4)
      have BQ := hide (blk_keep U4.out.2.1 h4)
      have BR1 := hide (blk_keep U4.out.2.2.1 h4)
      have BR2 := hide (blk_keep U4.out.2.2.2.1 h4)
      have B4 := hide (bt U4.out.2.2.2.2 h4)
      clear h4 U4 ME
      obtain ⟨x0, x1, x2, x3, x4⟩ := cells5 BP.out
      obtain ⟨y0, y1, y2, y3, y4⟩ := cells5 BQ.out
      go_upto_region 3 with fail
      go_region
      go_upto_region 4 with fail
      clear x0 x1 x2 x3 x4 y0 y1 y2 y3 y4
      go_cut [62] from 46 to 62 (fun v wx => v = .bool (!Bm) ∧ Below w4.heap.size w4 wx)
      case first =>
        clear RWL RWR CB SJ JI JL JR SL SR NB HN ZE AT BP BQ BR1 BR2 B4
        cases t with
        | true =>
          have eB : Hid (mayL m m2 = Bm) := HBm.out
          clear HBm LE2
          cases hm : Bm with
          | true =>
            rw [hm] at eB
            rw [eB.out] at LE1
            have HmB := hide hm
            clear hm eB
            go_wp2_with fail
            refine (LE1.out _).mono ?_
            rintro _ w5 ⟨rfl, h5⟩
            go_wp2_with fail
            go_meet
            case rel => exact ⟨by rw [HmB.out]; rfl, bt (dr2 w4) h5⟩
          | false =>
            rw [hm] at eB
            rw [eB.out] at LE1
            have HmB := hide hm
            clear hm eB
            go_wp2_with fail
            refine (LE1.out _).mono ?_
            rintro _ w5 ⟨rfl, h5⟩
            go_wp2_with fail
            go_meet
            case rel => exact ⟨by rw [HmB.out]; rfl, bt (dr2 w4) h5⟩
        | false =>
          have eB : Hid (mayL m2 m = Bm) := HBm.out
          clear HBm LE1
          cases hm : Bm with
          | true =>
            rw [hm] at eB
            rw [eB.out] at LE2
            have HmB := hide hm
            clear hm eB
            go_wp2_with fail
            refine (LE2.out _).mono ?_
            rintro _ w5 ⟨rfl, h5⟩
            go_wp2_with fail
            go_meet
            case rel => exact ⟨by rw [HmB.out]; rfl, bt (dr2 w4) h5⟩
          | false =>
            rw [hm] at eB
            rw [eB.out] at LE2
            have HmB := hide hm
            clear hm eB
            go_wp2_with fail
            refine (LE2.out _).mono ?_
            rintro _ w5 ⟨rfl, h5⟩
            go_wp2_with fail
            go_meet
            case rel => exact ⟨by rw [HmB.out]; rfl, bt (dr2 w4) h5⟩
      case rest =>
        obtain ⟨rfl, hb5⟩ := hcut
        replace BP := hide (blk_keep BP.out hb5)
        replace BQ := hide (blk_keep BQ.out hb5)
        replace BR1 := hide (blk_keep BR1.out hb5)
        replace BR2 := hide (blk_keep BR2.out hb5)
        replace B4 := hide (bt B4.out hb5)
        clear hb5 LE1 LE2 HBm
        cases hm : Bm with
        | false =>
          rw [if_neg (fun h => by have := h.2; rw [hm] at this; cases this)] at ZE
          clear hm
          clear RWL RWR CB SJ JI JL JR SL SR NB HN S8
          have BX1 := hide (setRow_heap wc (w.heap.size + 2) _ #[.int .i64 0, .int .i64 0, .slice none 0 0, .slice none 0 0, .int .i64 0] _ _ BR1.out)
          have BX2 := hide (row_far (W := wc) (g := w.heap.size + 2) #[.int .i64 0, .int .i64 0, .slice none 0 0, .slice none 0 0, .int .i64 0] BR2.out (by omega))
          have BY1 := hide (row_far (g := w.heap.size + 3) #[.int .i64 0, .int .i64 0, .slice none 0 0, .slice none 0 0, .int .i64 0] BX1.out (by omega))
          have BY2 := hide (setRow_heap _ (w.heap.size + 3) _ #[.int .i64 0, .int .i64 0, .slice none 0 0, .slice none 0 0, .int .i64 0] _ _ BX2.out)
          go_wp2_with (first | (refine wpList_store_row rfl 25 _ _ rfl (w.heap.size + 2) _ rfl rfl 25 _ BR1.out sizePage rfl (by simp [Value.oneCell']) ?_) | (refine wpList_store_row rfl 25 _ _ rfl (w.heap.size + 3) _ rfl rfl 25 _ BX2.out sizePage rfl (by simp [Value.oneCell']) ?_) | fail)
          refine bodyPost_ret (v := .tuple #[.agg _, .agg _, _, _]) (results_cells Try.results10 _ _ (w.heap.size + 2) (w.heap.size + 3) 25 25 _ _ (0, 0) (0, 0) _ rfl BY1.out rfl BY2.out Try.underlying25 rfl sizePage sizePage) rfl ?_
          rw [ZE.out]
          exact ⟨Pv.zero, Pv.zero, none, 0, rfl, Pi.zero _, Pi.zero _, Bs.nil _, rfl, rfl, below_row _ (below_row _ B4.out (by omega)) (by omega)⟩
        | true =>
          obtain ⟨n1, n2, n3, n4, n5⟩ := NB.out hm
          rw [if_pos ⟨AT.out, hm⟩] at ZE
          clear hm NB AT
          replace JI := hide (JI.out n2)
          generalize wc = w5 at *
          have hz5 : w.heap.size + 3 < w5.heap.size := (Array.getElem?_eq_some_iff.1 BR2.out).1
          go_wp2_with fail
          go_loopw [14, 15] (fun o i wx => ∃ (k : Nat) (ak : Option Addr) (ck : Nat) (M : List Iv), k ≤ m ∧ i = .int .i64 k ∧ o = .slice ak k ck ∧ Ck w5 wx ak ck M (L.take k)) (fun _ i _ => m - (intOf i).toNat)
          case atStart => exact ⟨0, none, 0, [], Nat.zero_le _, rfl, rfl, by rw [List.take_zero]; exact Ck.nil _ (Below.refl _ _)⟩
          case round =>
            obtain ⟨k, ak, ck, M, hk, rfl, rfl, hO⟩ := hrel
            have O0 := hide hO
            have HMk : Hid (k = M.length) := by show _ = _; rw [hO.len, List.length_take, HM.out]; omega
            obtain ⟨x0, x1, x2, x3, x4⟩ := cells5 (blk_keep BP.out hO.j.b)
            clear hO
            by_cases hlt : k < m
            · have hlti : (k : Int) < (m : Int) := by omega
              have hkL : k < L.length := by rw [HM.out]; exact hlt
              have T3 := hide (take_nx (L := L) hkL)
              have BW := hide (bt B4.out O0.out.j.b)
              obtain ⟨bI, off, rfl, hr⟩ := (JL.out.keep BW.out).at hkL
              obtain ⟨k0, k1, k2, k3⟩ := range4 hr
              have I0 := (JL.out.1 _ (getD_memR hkL)).keep BW.out
              have C1 := hide (CopyItem_any wr (L.getD k Iv.zero) I0 (SL.out _ (getD_memR hkL)).1 (SL.out _ (getD_memR hkL)).2)
              have N1 := hide (And.intro I0.nc I0.ns)
              have hml : M.length + 1 ≤ 2199023255520 := by rw [← HMk.out]; omega
              clear hr I0
              generalize L.getD k Iv.zero = v at *
              have INQ := hide fun (q : Iv) (h : q.it = v.it) => it_n h N1.out
              obtain ⟨aK, cK, key, aV, cV, val, child, size⟩ := v
              simp only [Iv.vl, Iv.cs] at C1 k0 k1 k2 k3
              go_wp2_with fail
              refine C1.out.mono ?_
              rintro e w7 ⟨q, rfl, hq, he⟩
              have Q1 := hide hq
              have Q2 := hide he
              have Q3 := hide (INQ.out q he)
              have J2 := hide ((O0.out.j.keep hq.k.b).r.keep (al w7 (.cells q.cs 40)))
              have BX := hide (box_item w7 q w7.heap.size rfl)
              clear hq he C1 k0 k1 k2 k3 x0 x1 x2 x3 x4
              obtain ⟨qK, dK, kq, qV, dV, vq, cq, sq⟩ := q
              simp only [Iv.cs] at J2 BX ⊢
              go_wp2_with (at_builtin; refine wpList_apJ rfl _ _ rfl ak k ck M rfl HMk.out J2.out ⟨_, 0, none⟩ 1 ⟨qK, dK, kq, qV, dV, vq, cq, sq⟩ rfl BX.out hml ?_)
              intro g2 c2 w8 hJ hN hg
              have O5 := hide (O0.out.push Q1.out Q2.out Q3.out (al _ _) hJ hN hg)
              rw [← T3.out] at O5
              clear hJ hN hg
              go_wp2
              go_roundw
              case rel =>
                refine ⟨_, _, _, _, _, _, _, _, _, _, _, _, _, _, _, _, ?r1, rfl⟩
                exact ⟨k + 1, _, c2, _, by omega, by first | (go_num; done) | exact congrArg (Value.int IntKind.i64) (by omega), rfl, O5.out⟩
              case measure => first | exact meas_up _ _ _ rfl hlt | (simp [intOf]; omega)
            · obtain rfl : k = m := by omega
              have OL : Hid (Ck w5 wr ak ck M L) := by have := O0.out; rw [← HM.out, List.take_length] at this; exact this
              clear O0 HMk
              go_wp2_with fail
              clear x0 x1 x2 x3 x4
              go_loopw [14, 16] (fun o i wx => ∃ (j : Nat) (aj : Option Addr) (cj : Nat) (N : List Iv), j ≤ m2 ∧ i = .int .i64 j ∧ o = .slice aj (k + j) cj ∧ Ck w5 wx aj cj N (L ++ R.take j)) (fun _ i _ => m2 - (intOf i).toNat)
              case atStart => exact ⟨0, ak, ck, M, Nat.zero_le _, rfl, rfl, by rw [List.take_zero, List.append_nil]; exact OL.out⟩
              case round =>
                clear OL
                obtain ⟨j, aj, cj, N, hj, rfl, rfl, hO⟩ := hrel
                have O0 := hide hO
                have HNj : Hid (k + j = N.length) := by show _ = _; rw [hO.len, List.length_append, List.length_take, HM.out, HM2.out]; omega
                obtain ⟨x0, x1, x2, x3, x4⟩ := cells5 (blk_keep BP.out hO.j.b)
                obtain ⟨y0, y1, y2, y3, y4⟩ := cells5 (blk_keep BQ.out hO.j.b)
                clear hO
                by_cases hlt : j < m2
                · have hlti : (j : Int) < (m2 : Int) := by omega
                  have hjR : j < R.length := by rw [HM2.out]; exact hlt
                  have T3 : Hid (L ++ R.take (j + 1) = (L ++ R.take j) ++ [R.getD j Iv.zero]) := by show _ = _; rw [take_nx (L := R) hjR, List.append_assoc]
                  have BW := hide (bt B4.out O0.out.j.b)
                  obtain ⟨bI, off, rfl, hr⟩ := (JR.out.keep BW.out).at hjR
                  obtain ⟨k0, k1, k2, k3⟩ := range4 hr
                  have I0 := (JR.out.1 _ (getD_memR hjR)).keep BW.out
                  have C1 := hide (CopyItem_any wr (R.getD j Iv.zero) I0 (SR.out _ (getD_memR hjR)).1 (SR.out _ (getD_memR hjR)).2)
                  have N1 := hide (And.intro I0.nc I0.ns)
                  have hml : N.length + 1 ≤ 2199023255520 := by rw [← HNj.out]; omega
                  clear hr I0
                  generalize R.getD j Iv.zero = v at *
                  have INQ := hide fun (q : Iv) (h : q.it = v.it) => it_n h N1.out
                  obtain ⟨aK, cK, key, aV, cV, val, child, size⟩ := v
                  simp only [Iv.vl, Iv.cs] at C1 k0 k1 k2 k3
                  go_wp2_with fail
                  refine C1.out.mono ?_
                  rintro e w7 ⟨q, rfl, hq, he⟩
                  have Q1 := hide hq
                  have Q2 := hide he
                  have Q3 := hide (INQ.out q he)
                  have J2 := hide ((O0.out.j.keep hq.k.b).r.keep (al w7 (.cells q.cs 40)))
                  have BX := hide (box_item w7 q w7.heap.size rfl)
                  clear hq he C1 k0 k1 k2 k3 x0 x1 x2 x3 x4 y0 y1 y2 y3 y4
                  obtain ⟨qK, dK, kq, qV, dV, vq, cq, sq⟩ := q
                  simp only [Iv.cs] at J2 BX ⊢
                  go_wp2_with (at_builtin; refine wpList_apJ rfl _ _ rfl aj (k + j) cj N rfl HNj.out J2.out ⟨_, 0, none⟩ 1 ⟨qK, dK, kq, qV, dV, vq, cq, sq⟩ rfl BX.out hml ?_)
                  intro g2 c2 w8 hJ hN hg
                  have O5 := hide (O0.out.push Q1.out Q2.out Q3.out (al _ _) hJ hN hg)
                  rw [← T3.out] at O5
                  clear hJ hN hg
                  go_wp2
                  go_roundw
                  case rel =>
                    refine ⟨_, _, _, _, _, _, _, _, _, _, _, _, _, _, _, _, ?r2, rfl⟩
                    exact ⟨j + 1, _, c2, _, by omega, by first | (go_num; done) | exact congrArg (Value.int IntKind.i64) (by omega), by first | rfl | (rw [Nat.add_assoc]), O5.out⟩
                  case measure => first | exact meas_up _ _ _ rfl hlt | (simp [intOf]; omega)
                · obtain rfl : j = m2 := by omega
                  have OL : Hid (Ck w5 wr aj cj N (L ++ R)) := by have := O0.out; rw [← HM2.out, List.take_length] at this; exact this
                  obtain ⟨ga, rfl, hAL⟩ := OL.out.al (by rw [← HNj.out]; omega)
                  have AL := hide hAL
                  have EN : Hid (N.map Iv.it = L.map Iv.it ++ R.map Iv.it) := by show _ = _; rw [OL.out.e, List.map_append]
                  clear O0 OL hAL
                  have hzr : w.heap.size + 3 < wr.heap.size := by have := (Array.getElem?_eq_some_iff.1 (blk_keep BR2.out AL.out.b)).1; omega
                  replace BP := hide (blk_keep BP.out AL.out.b)
                  replace BQ := hide (blk_keep BQ.out AL.out.b)
                  replace BR1 := hide (blk_keep BR1.out AL.out.b)
                  replace BR2 := hide (blk_keep BR2.out AL.out.b)
                  have hga : w.heap.size + 3 < ga := by
                    have h1 := AL.out.lg
                    omega
                  replace B4 := hide (bt B4.out AL.out.b)
                  clear JL JR SL SR x0 x1 x2 x3 x4 y0 y1 y2 y3 y4
                  obtain ⟨K0, hK0⟩ : ∃ K0, k + j = K0 := ⟨_, rfl⟩
                  rw [hK0] at HNj n4 n5
                  simp only [hK0]
                  have n1' : k < K0 := by omega
                  clear hK0
                  by_cases hk2 : kind = 2
                  · subst hk2
                    rw [if_pos rfl] at JI
                    obtain ⟨g4, g5⟩ : k < N.length ∧ nn < N.length := by have := HNj.out; omega
                    have J4 := AL.out.j.item4 g4
                    obtain ⟨⟨k0, -, -, -⟩, z0, -, -, -⟩ := J4
                    obtain ⟨x0, x1, x2, x3, x4⟩ := cells5 BP.out
                    have hgw : ga < wr.heap.size := block_lt_of_cell k0
                    have kI : (k : Int) < (K0 : Int) := by omega
                    go_wp2_with fail
                    refine (CB.out _ B4.out).mono ?_
                    rintro _ w6 ⟨a6, c6, rfl, hO⟩
                    have AL6 := hide ((AL.out.keep hO.b).setK g4 hO.r S8.out)
                    have nB := But.cell1 w6 ga (k * 4) (.slice a6 s.length c6)
                    have nt : ∀ {g : Nat} {c : Array Value}, w6.heap[g]? = some (.cells c 25 (0, 0)) → g ≠ ga := fun hg e => (AL.out.j.keep hO.b).nty (show Bx w6 25 _ _ from hg) (by decide) rfl e.symm
                    have BP6 := hide ((Below.heap_setCell w6 ⟨ga, k * 4, none⟩ (.slice a6 s.length c6) w.heap.size (nt (blk_keep BP.out hO.b))).trans (blk_keep BP.out hO.b))
                    have BQ6 := hide ((Below.heap_setCell w6 ⟨ga, k * 4, none⟩ (.slice a6 s.length c6) (w.heap.size + 1) (nt (blk_keep BQ.out hO.b))).trans (blk_keep BQ.out hO.b))
                    have BR16 := hide ((Below.heap_setCell w6 ⟨ga, k * 4, none⟩ (.slice a6 s.length c6) (w.heap.size + 2) (nt (blk_keep BR1.out hO.b))).trans (blk_keep BR1.out hO.b))
                    have BR26 := hide ((Below.heap_setCell w6 ⟨ga, k * 4, none⟩ (.slice a6 s.length c6) (w.heap.size + 3) (nt (blk_keep BR2.out hO.b))).trans (blk_keep BR2.out hO.b))
                    have B46 : Hid (Below w.heap.size w (w6.setCell ⟨ga, k * 4, none⟩ (.slice a6 s.length c6))) := ((But.ofBelow (S := fun k => k = ga) (bt B4.out hO.b)).trans nB (fun _ _ e => e)).below (fun k hk e => by omega)
                    have J5 := (AL.out.j.keep hO.b).item4 g4
                    obtain ⟨⟨k0', -, -, -⟩, z0', -, -, -⟩ := J5
                    have hb6 := hO.b.size
                    have JE : Hid (J = (N.set k ((N.getD k Iv.zero).rk a6 c6 s)).map Iv.it) := by
                      show _ = _
                      rw [set_it g4, EN.out, JI.out]
                      congr 1
                      rw [it_getD0 HM.out]
                    obtain ⟨M, hM⟩ : ∃ M, N.set k ((N.getD k Iv.zero).rk a6 c6 s) = M := ⟨_, rfl⟩
                    rw [hM] at AL6 JE
                    have LM : Hid (M.length = K0) := by show _ = _; rw [← hM, List.length_set]; exact HNj.out.symm
                    clear hM hO nB nt k0 z0 CB x0 x1 x2 x3 x4 BP BQ BR1 BR2 B4 AL EN JI g4 g5
                    go_upto_region 17 with fail
                    clear k0' z0'
                    generalize w6.setCell ⟨ga, k * 4, none⟩ (.slice a6 s.length c6) = w7 at *
                    have BP := BP6
                    have BQ := BQ6
                    have BR1 := BR16
                    have BR2 := BR26
                    have B4 := B46
                    have AL := AL6
                    have hz7 : w.heap.size + 3 < w7.heap.size := (Array.getElem?_eq_some_iff.1 BR2.out).1
                    clear BP6 BQ6 BR16 BR26 B46 AL6
                    go_upto_if 102 with fail
                    go_cut [12] from 102 to 106 (fun v wx => v = .int .i64 (nn : Int) ∧ wx = w7)
                    case first =>
                      clear RWL RWR SJ ZE BP BQ BR1 BR2 B4 AL JE
                      cases t with
                      | true =>
                        have eN : k - 1 = nn := HN.out
                        have eI : (k : Int) - 1 = (nn : Int) := by omega
                        clear HN
                        go_wp2_with fail
                        go_meet
                        case rel => exact ⟨by first | rfl | (go_num; done) | exact congrArg (Value.int IntKind.i64) (by omega), rfl⟩
                      | false =>
                        have eN : k + 1 = nn := HN.out
                        have eI : (k : Int) + 1 = (nn : Int) := by omega
                        clear HN
                        go_wp2_with fail
                        go_meet
                        case rel => exact ⟨by first | rfl | (go_num; done) | exact congrArg (Value.int IntKind.i64) (by omega), rfl⟩
                    case rest =>
                      obtain ⟨rfl, hwc⟩ := hcut
                      rw [hwc]
                      clear hwc HN
                      obtain ⟨x0, x1, x2, x3, x4⟩ := cells5 BP.out
                      have g5 : nn < M.length := by have := LM.out; omega
                      have SM : Hid (Sml M) := fun x hx => SJ.out x.it (by rw [JE.out]; exact List.mem_map_of_mem hx)
                      obtain ⟨⟨k0, -, -, -⟩, z0, -, -, -⟩ := AL.out.j.item4 g5
                      have hnI : (nn : Int) < (K0 : Int) := by omega
                      have CK := hide (CopyBytes_at w7 (M.getD nn Iv.zero).aK (M.getD nn Iv.zero).key.length (M.getD nn Iv.zero).cK (M.getD nn Iv.zero).key (AL.out.y _ (getD_memR g5)).ii.bk rfl (SM.out _ (getD_memR g5)).1)
                      have K8 := hide (AL.out.y _ (getD_memR g5)).k8
                      have ZI : Hid (Z = ⟨(Pv.pg ⟨2, level, aI, cI, L, aD, cD, data, next⟩).wi (J.take nn), (Pv.pg ⟨2, level, aI2, cI2, R, aD2, cD2, data2, next2⟩).wi ((M.getD nn Iv.zero).it.keyed [] :: J.drop (nn + 1)), (M.getD nn Iv.zero).key, true⟩) := by
                        show _ = _
                        have e : J.getD nn It.zero = (M.getD nn Iv.zero).it := by rw [JE.out, it_getD]
                        rw [ZE.out, prt_idx (show (Pv.pg ⟨2, level, aI2, cI2, R, aD2, cD2, data2, next2⟩).kind = 2 from rfl) (by rw [JE.out, List.length_map]; exact g5), e]
                        rfl
                      have Z1 : Hid ((Pv.pg ⟨2, level, aI, cI, L, aD, cD, data, next⟩).wi (((M.set nn ((M.getD nn Iv.zero).rk none 0 [])).take nn).map Iv.it) = (Pv.pg ⟨2, level, aI, cI, L, aD, cD, data, next⟩).wi (J.take nn)) := by
                        show _ = _
                        rw [set_take, JE.out, List.map_take]
                      have Z2 : Hid ((Pv.pg ⟨2, level, aI2, cI2, R, aD2, cD2, data2, next2⟩).wi (((M.set nn ((M.getD nn Iv.zero).rk none 0 [])).drop nn).map Iv.it) = (Pv.pg ⟨2, level, aI2, cI2, R, aD2, cD2, data2, next2⟩).wi ((M.getD nn Iv.zero).it.keyed [] :: J.drop (nn + 1))) := by
                        show _ = _
                        rw [set_drop g5, JE.out, List.map_cons, List.map_drop]
                        rfl
                      have SN : Hid (Sml (M.set nn ((M.getD nn Iv.zero).rk none 0 []))) := fun x hx => by
                        rcases List.mem_or_eq_of_mem_set hx with hx | rfl
                        · exact SM.out x hx
                        · exact ⟨Nat.zero_le _, (SM.out _ (getD_memR g5)).2⟩
                      have LN : Hid ((M.set nn ((M.getD nn Iv.zero).rk none 0 [])).length = K0) := by show _ = _; rw [List.length_set]; exact LM.out
                      have SK8 := hide fun (W : World) (h : Below w7.heap.size w7 W) => (show Al w5 (W.setCell ⟨ga, nn * 4, none⟩ (.slice none 0 0)) ga cj (M.set nn ((M.getD nn Iv.zero).rk none 0 [])) from (AL.out.keep h).setK g5 (Rw.nil _) B8.nil)
                      have Z0' := hide fun (W : World) (h : Below w7.heap.size w7 W) => (((AL.out.keep h).j.item4 g5).1.1)
                      have Z0f := hide fun (W : World) (h : Below w7.heap.size w7 W) => (((AL.out.keep h).j.item4 g5).2.1)
                      clear SM JE ZE SJ
                      generalize M.set nn ((M.getD nn Iv.zero).rk none 0 []) = N2 at *
                      generalize M.getD nn Iv.zero = v5 at *
                      obtain ⟨hK, hcK, hkey, hV, hcV, hval, hch, hsz⟩ := v5
                      simp only at CK K8 ZI Z0' k0
                      go_wp2_with fail
                      refine CK.out.mono ?_
                      rintro _ w8 ⟨a8, c8, rfl, hO⟩
                      have AL8 := hide (SK8.out _ hO.b)
                      have nB := But.cell1 w8 ga (nn * 4) (.slice none 0 0)
                      have jj := AL.out.j.keep hO.b
                      have nt : ∀ {g : Nat} {c : Array Value}, w8.heap[g]? = some (.cells c 25 (0, 0)) → g ≠ ga := fun hg e => jj.nty (show Bx w8 25 _ _ from hg) (by decide) rfl e.symm
                      have BP8 := hide ((Below.heap_setCell w8 ⟨ga, nn * 4, none⟩ (.slice none 0 0) w.heap.size (nt (blk_keep BP.out hO.b))).trans (blk_keep BP.out hO.b))
                      have BQ8 := hide ((Below.heap_setCell w8 ⟨ga, nn * 4, none⟩ (.slice none 0 0) (w.heap.size + 1) (nt (blk_keep BQ.out hO.b))).trans (blk_keep BQ.out hO.b))
                      have BR18 := hide ((Below.heap_setCell w8 ⟨ga, nn * 4, none⟩ (.slice none 0 0) (w.heap.size + 2) (nt (blk_keep BR1.out hO.b))).trans (blk_keep BR1.out hO.b))
                      have BR28 := hide ((Below.heap_setCell w8 ⟨ga, nn * 4, none⟩ (.slice none 0 0) (w.heap.size + 3) (nt (blk_keep BR2.out hO.b))).trans (blk_keep BR2.out hO.b))
                      have B48 : Hid (Below w.heap.size w (w8.setCell ⟨ga, nn * 4, none⟩ (.slice none 0 0))) := ((But.ofBelow (S := fun k => k = ga) (bt B4.out hO.b)).trans nB (fun _ _ e => e)).below (fun k hk e => by omega)
                      have r8 := hO.r.but nB (fun x hx e => jj.ne hO.r rfl hx e.symm)
                      have TB := hide (r8.bs K8.out r8.len_le)
                      have TN : Hid (∀ x, a8 = some x → w7.heap.size ≤ x.block) := fun x hx => new_at hO.n hx
                      have k0' := Z0'.out _ hO.b
                      have z0' := Z0f.out _ hO.b
                      clear hO nB jj nt r8 k0 z0 CK x0 x1 x2 x3 x4 BP BQ BR1 BR2 B4 AL Z0' Z0f SK8
                      go_upto_region 23 with fail
                      clear k0' z0'
                      generalize w8.setCell ⟨ga, nn * 4, none⟩ (.slice none 0 0) = w9 at *
                      have BP := BP8
                      have BQ := BQ8
                      have BR1 := BR18
                      have BR2 := BR28
                      have B4 := B48
                      have AL := AL8
                      clear BP8 BQ8 BR18 BR28 B48 AL8
                      have SS := hide fun (W : World) (hb : Below w9.heap.size w9 W) => And.intro (cells5 (blk_keep BP.out hb)) (cells5 (blk_keep BQ.out hb))
                      have DD := hide (dr2 w9)
                      have hjs := AL.out.js (by rw [LN.out]; omega)
                      have RA := hide fun (W : World) (hb : Below w9.heap.size w9 W) => RWL.out W (bt B4.out hb) (some ⟨ga, 0, none⟩) nn cj (N2.take nn) ((hjs.take nn).keep hb) (by rw [List.length_take, LN.out]; omega) (SN.out.take nn)
                      have RB := hide fun (W : World) (hb : Below w9.heap.size w9 W) => RWR.out W (bt B4.out hb) (some ⟨ga, 0 + nn * 4, none⟩) (K0 - nn) (cj - nn) (N2.drop nn) ((hjs.drop nn).keep hb) (by rw [List.length_drop, LN.out]) (SN.out.drop nn)
                      obtain ⟨hc1, -⟩ : K0 ≤ cj ∧ cj ≤ maxLen := by obtain ⟨_, _, h1, h2⟩ := AL.out.j.addr (by rw [LN.out]; omega); rw [LN.out] at h1; exact ⟨h1, h2⟩
                      have hc2 : nn ≤ cj := by omega
                      have hc3 : (nn : Int) ≤ (cj : Int) := by omega
                      have hc4 : ¬ cj = nn := by omega
                      have hc5 : (nn : Int) ≤ (K0 : Int) := by omega
                      have hc6 : (0 : Int) ≤ (nn : Int) := by omega
                      have hc7 : (K0 : Int) ≤ (cj : Int) := by omega
                      have hzW : w.heap.size + 3 < w9.heap.size := (Array.getElem?_eq_some_iff.1 BR2.out).1
                      simp only [Nat.zero_add] at RB
                      clear hjs RWL RWR
                      refine wp_region_held_drew (S := fun W => (W.cell? ⟨w.heap.size, 0, none⟩ = some (.int .i64 2) ∧ W.cell? ⟨w.heap.size, 1, none⟩ = some (.int .i64 level) ∧ W.cell? ⟨w.heap.size, 2, none⟩ = some (.slice aI k cI) ∧ W.cell? ⟨w.heap.size, 3, none⟩ = some (.slice aD data.length cD) ∧ W.cell? ⟨w.heap.size, 4, none⟩ = some (.int .i64 next)) ∧ (W.cell? ⟨w.heap.size + 1, 0, none⟩ = some (.int .i64 2) ∧ W.cell? ⟨w.heap.size + 1, 1, none⟩ = some (.int .i64 level) ∧ W.cell? ⟨w.heap.size + 1, 2, none⟩ = some (.slice aI2 j cI2) ∧ W.cell? ⟨w.heap.size + 1, 3, none⟩ = some (.slice aD2 data2.length cD2) ∧ W.cell? ⟨w.heap.size + 1, 4, none⟩ = some (.int .i64 next2))) (by kernel_rfl) (SS.out _ DD.out) (fun hHeld => ?_)
                      refine wpAnyH_take (i := 0) (v := ?vai0) rfl (by kernel_rfl) (by kernel_rfl) (by kernel_rfl) (fun _ _ _ h => h) (Or.inl ⟨by rfl, ?hyi0⟩) (by assumption) ?rai0
                      case hyi0 => (intro wq hSw; (try dsimp only at hSw); obtain ⟨⟨e0, e1, e2, e3, e4⟩, f0, f1, f2, f3, f4⟩ := hSw; go_simp <;> with_reducible rfl)
                      try simp only [Act.put, List.getElem_toArray, List.getElem_cons_zero, List.setIfInBounds_toArray, List.set_cons_zero, List.set_cons_succ]
                      refine wpAnyH_take (i := 1) (v := ?vai1) rfl (by kernel_rfl) (by kernel_rfl) (by kernel_rfl) (fun _ _ _ h => h) (Or.inl ⟨by rfl, ?hyi1⟩) (by assumption) ?rai1
                      case hyi1 => (intro wq hSw; (try dsimp only at hSw); obtain ⟨⟨e0, e1, e2, e3, e4⟩, f0, f1, f2, f3, f4⟩ := hSw; go_simp <;> with_reducible rfl)
                      try simp only [Act.put, List.getElem_toArray, List.getElem_cons_zero, List.getElem_cons_succ, List.setIfInBounds_toArray, List.set_cons_zero, List.set_cons_succ]
                      refine wpAnyH_take (i := 2) (v := ?vai2) rfl (by kernel_rfl) (by kernel_rfl) (by kernel_rfl) (fun _ _ _ h => h) (Or.inl ⟨by rfl, ?hyi2⟩) (by assumption) ?rai2
                      case hyi2 => (intro wq hSw; (try dsimp only at hSw); obtain ⟨⟨e0, e1, e2, e3, e4⟩, f0, f1, f2, f3, f4⟩ := hSw; go_simp <;> with_reducible rfl)
                      try simp only [Act.put, List.getElem_toArray, List.getElem_cons_zero, List.getElem_cons_succ, List.setIfInBounds_toArray, List.set_cons_zero, List.set_cons_succ]
                      refine wpAnyH_take (i := 3) (v := ?vai3) rfl (by kernel_rfl) (by kernel_rfl) (by kernel_rfl) (fun _ _ _ h => h) (Or.inl ⟨by rfl, ?hyi3⟩) (by assumption) ?rai3
                      case hyi3 => (intro wq hSw; (try dsimp only at hSw); obtain ⟨⟨e0, e1, e2, e3, e4⟩, f0, f1, f2, f3, f4⟩ := hSw; go_simp <;> with_reducible rfl)
                      try simp only [Act.put, List.getElem_toArray, List.getElem_cons_zero, List.getElem_cons_succ, List.setIfInBounds_toArray, List.set_cons_zero, List.set_cons_succ]
                      refine wpAnyH_take (i := 5) (v := ?vai5) rfl (by kernel_rfl) (by kernel_rfl) (by kernel_rfl) (fun _ _ _ h => h) (Or.inl ⟨by rfl, ?hyi5⟩) (by assumption) ?rai5
                      case hyi5 => (intro wq hSw; (try dsimp only at hSw); obtain ⟨⟨e0, e1, e2, e3, e4⟩, f0, f1, f2, f3, f4⟩ := hSw; go_simp <;> with_reducible rfl)
                      try simp only [Act.put, List.getElem_toArray, List.getElem_cons_zero, List.getElem_cons_succ, List.setIfInBounds_toArray, List.set_cons_zero, List.set_cons_succ]
                      refine wpAnyH_take (i := 6) (v := ?vai6) rfl (by kernel_rfl) (by kernel_rfl) (by kernel_rfl) (fun _ _ _ h => h) (Or.inl ⟨by rfl, ?hyi6⟩) (by assumption) ?rai6
                      case hyi6 => (intro wq hSw; (try dsimp only at hSw); obtain ⟨⟨e0, e1, e2, e3, e4⟩, f0, f1, f2, f3, f4⟩ := hSw; go_simp <;> with_reducible rfl)
                      try simp only [Act.put, List.getElem_toArray, List.getElem_cons_zero, List.getElem_cons_succ, List.setIfInBounds_toArray, List.set_cons_zero, List.set_cons_succ]
                      refine wpAnyH_take (i := 7) (v := ?vai7) rfl (by kernel_rfl) (by kernel_rfl) (by kernel_rfl) (fun _ _ _ h => h) (Or.inl ⟨by rfl, ?hyi7⟩) (by assumption) ?rai7
                      case hyi7 => (intro wq hSw; (try dsimp only at hSw); obtain ⟨⟨e0, e1, e2, e3, e4⟩, f0, f1, f2, f3, f4⟩ := hSw; go_simp <;> with_reducible rfl)
                      try simp only [Act.put, List.getElem_toArray, List.getElem_cons_zero, List.getElem_cons_succ, List.setIfInBounds_toArray, List.set_cons_zero, List.set_cons_succ]
                      refine wpAnyH_take (i := 8) (v := ?vai8) rfl (by kernel_rfl) (by kernel_rfl) (by kernel_rfl) (fun _ _ _ h => h) (Or.inl ⟨by rfl, ?hyi8⟩) (by assumption) ?rai8
                      case hyi8 => (intro wq hSw; (try dsimp only at hSw); obtain ⟨⟨e0, e1, e2, e3, e4⟩, f0, f1, f2, f3, f4⟩ := hSw; go_simp <;> with_reducible rfl)
                      try simp only [Act.put, List.getElem_toArray, List.getElem_cons_zero, List.getElem_cons_succ, List.setIfInBounds_toArray, List.set_cons_zero, List.set_cons_succ]
                      refine wpAnyH_take (i := 10) (v := ?vai10) rfl (by kernel_rfl) (by kernel_rfl) (by kernel_rfl) (fun _ _ _ h => h) (Or.inl ⟨by rfl, ?hyi10⟩) (by assumption) ?rai10
                      case hyi10 => (intro wq hSw; (try dsimp only at hSw); obtain ⟨⟨e0, e1, e2, e3, e4⟩, f0, f1, f2, f3, f4⟩ := hSw; go_simp <;> with_reducible rfl)
                      try simp only [Act.put, List.getElem_toArray, List.getElem_cons_zero, List.getElem_cons_succ, List.setIfInBounds_toArray, List.set_cons_zero, List.set_cons_succ]
                      refine wpAnyH_ready (rs := [4]) (by kernel_rfl) (by simp) ?_
                      refine AllReadyH.cons rfl (fun K hK => ?_) AllReadyH.nil
                      go_simp
                      refine (RA.out _ DD.out).mono ?_
                      rintro _ w10 ⟨q1, rfl, hn1, hg1, hb1⟩
                      have N1 := hide hn1
                      have G1 := hide hg1
                      have B10 := hide (bt DD.out hb1)
                      clear hn1 hg1 hb1
                      go_wp2_with fail
                      refine hK.out _ _ (SS.out _ B10.out) (fun hHeld => ?_)
                      clear hK K
                      try simp only [Act.put, List.getElem_toArray, List.getElem_cons_zero, List.getElem_cons_succ, List.setIfInBounds_toArray, List.set_cons_zero, List.set_cons_succ]
                      refine wpAnyH_ready (rs := [9]) (by kernel_rfl) (by simp) ?_
                      refine AllReadyH.cons rfl (fun K hK => ?_) AllReadyH.nil
                      go_simp
                      refine (RB.out _ B10.out).mono ?_
                      rintro _ w11 ⟨q2, rfl, hn2, hg2, hb2⟩
                      have NQ2 := hide hn2
                      have G2 := hide hg2
                      have N1' := hide (N1.out.keep hb2)
                      have B11 := hide (bt B10.out hb2)
                      clear hn2 hg2 hb2 N1
                      go_wp2_with fail
                      refine hK.out _ _ (SS.out _ B11.out) (fun hHeld => ?_)
                      clear hK K
                      try simp only [Act.put, List.getElem_toArray, List.getElem_cons_zero, List.getElem_cons_succ, List.setIfInBounds_toArray, List.set_cons_zero, List.set_cons_succ]
                      have BR11 := hide (blk_keep BR1.out B11.out)
                      have BR12 := hide (blk_keep BR2.out B11.out)
                      have BX1 := hide (setRow_heap w11 (w.heap.size + 2) _ q1.cs _ _ BR11.out)
                      have BX2 := hide (row_far (W := w11) (g := w.heap.size + 2) q1.cs BR12.out (by omega))
                      have BY1 := hide (row_far (g := w.heap.size + 3) q2.cs BX1.out (by omega))
                      have BY2 := hide (setRow_heap _ (w.heap.size + 3) _ q2.cs _ _ BX2.out)
                      simp only [Pv.cs] at BX1 BX2 BY1 BY2
                      refine wpAnyH_ready (rs := [11]) (by kernel_rfl) (by simp) ?_
                      refine AllReadyH.cons rfl (fun K hK => ?_) AllReadyH.nil
                      rw [if_pos (by rfl)]
                      refine wp_store_row 25 _ _ rfl (w.heap.size + 2) _ rfl rfl 25 _ BR11.out sizePage rfl (by simp [Value.oneCell']) ?_
                      refine hK.out _ _ (⟨cells5 (row_far _ (blk_keep BP.out B11.out) (by omega)), cells5 (row_far _ (blk_keep BQ.out B11.out) (by omega))⟩) (fun hHeld => ?_)
                      clear hK K
                      try simp only [Act.put, List.getElem_toArray, List.getElem_cons_zero, List.getElem_cons_succ, List.setIfInBounds_toArray, List.set_cons_zero, List.set_cons_succ]
                      refine wpAnyH_ready (rs := [12]) (by kernel_rfl) (by simp) ?_
                      refine AllReadyH.cons rfl (fun K hK => ?_) AllReadyH.nil
                      rw [if_pos (by rfl)]
                      refine wp_store_row 25 _ _ rfl (w.heap.size + 3) _ rfl rfl 25 _ BX2.out sizePage rfl (by simp [Value.oneCell']) ?_
                      refine hK.out _ _ (⟨cells5 (row_far _ (row_far _ (blk_keep BP.out B11.out) (by omega)) (by omega)), cells5 (row_far _ (row_far _ (blk_keep BQ.out B11.out) (by omega)) (by omega))⟩) (fun hHeld => ?_)
                      clear hK K
                      try simp only [Act.put, List.getElem_toArray, List.getElem_cons_zero, List.getElem_cons_succ, List.setIfInBounds_toArray, List.set_cons_zero, List.set_cons_succ]
                      refine wpAnyH_take (i := 13) (v := ?vai13) rfl (by kernel_rfl) (by kernel_rfl) (by kernel_rfl) (fun _ _ _ h => h) (Or.inl ⟨by rfl, ?hyi13⟩) (by assumption) ?rai13
                      case hyi13 => (intro wq hSw; (try dsimp only at hSw); obtain ⟨⟨e0, e1, e2, e3, e4⟩, f0, f1, f2, f3, f4⟩ := hSw; go_simp <;> with_reducible rfl)
                      try simp only [Act.put, List.getElem_toArray, List.getElem_cons_zero, List.getElem_cons_succ, List.setIfInBounds_toArray, List.set_cons_zero, List.set_cons_succ]
                      refine wpAnyH_take (i := 14) (v := ?vai14) rfl (by kernel_rfl) (by kernel_rfl) (by kernel_rfl) (fun _ _ _ h => h) (Or.inl ⟨by rfl, ?hyi14⟩) (by assumption) ?rai14
                      case hyi14 => (intro wq hSw; (try dsimp only at hSw); obtain ⟨⟨e0, e1, e2, e3, e4⟩, f0, f1, f2, f3, f4⟩ := hSw; go_simp <;> with_reducible rfl)
                      try simp only [Act.put, List.getElem_toArray, List.getElem_cons_zero, List.getElem_cons_succ, List.setIfInBounds_toArray, List.set_cons_zero, List.set_cons_succ]
                      refine wpAnyH_done (by kernel_rfl) ?_ _
                      clear hHeld
                      go_wp2_with fail
                      refine bodyPost_ret (v := .tuple #[.agg _, .agg _, _, _]) (results_cells Try.results10 _ _ (w.heap.size + 2) (w.heap.size + 3) 25 25 _ _ (0, 0) (0, 0) _ rfl BY1.out rfl BY2.out Try.underlying25 rfl sizePage sizePage) rfl ?_
                      have p1 := (N1'.out.row (show Bx w11 25 _ _ from BR11.out) (by decide) (by decide) q1.cs).row (show Bx _ 25 _ _ from BX2.out) (by decide) (by decide) q2.cs
                      have p2 := (NQ2.out.row (show Bx w11 25 _ _ from BR11.out) (by decide) (by decide) q1.cs).row (show Bx _ 25 _ _ from BX2.out) (by decide) (by decide) q2.cs
                      have tb := ((TB.out.keep B11.out).butS (but_setRow w11 (w.heap.size + 2) q1.cs) (fun x hx e => by have := TN.out x hx; omega)).butS (but_setRow _ (w.heap.size + 3) q2.cs) (fun x hx e => by have := TN.out x hx; omega)
                      have e1 : q1.items.length ≤ 2199023255520 := by
                        have := congrArg (fun p : Pg => p.items.length) G1.out
                        simp only [Pv.pg, Pg.wi, List.length_map, List.length_take, LN.out] at this
                        omega
                      have e2 : q2.items.length ≤ 2199023255520 := by
                        have := congrArg (fun p : Pg => p.items.length) G2.out
                        simp only [Pv.pg, Pg.wi, List.length_map, List.length_drop, LN.out] at this
                        omega
                      have bw := below_row q2.cs (below_row q1.cs (bt B4.out B11.out) (show w.heap.size ≤ w.heap.size + 2 by omega)) (show w.heap.size ≤ w.heap.size + 3 by omega)
                      rw [ZI.out]
                      exact ⟨q1, q2, a8, c8, rfl, p1.pi e1, p2.pi e2, tb, G1.out.trans Z1.out, G2.out.trans Z2.out, bw⟩
                  · have hkb : (kind == 2) = false := by simpa using hk2
                    rw [if_neg hk2] at JI
                    have JE : Hid (J = N.map Iv.it) := by show _ = _; rw [JI.out, EN.out]
                    obtain ⟨M, hM⟩ : ∃ M, N = M := ⟨_, rfl⟩
                    rw [hM] at AL JE
                    have LM : Hid (M.length = K0) := by show _ = _; rw [← hM]; exact HNj.out.symm
                    clear hM HNj EN JI CB S8
                    have hz7 : w.heap.size + 3 < wr.heap.size := (Array.getElem?_eq_some_iff.1 BR2.out).1
                    have xk0 := (cells5 BP.out).1
                    go_upto_if 102 with fail
                    go_cut [12] from 102 to 106 (fun v wx => v = .int .i64 (nn : Int) ∧ wx = wr)
                    case first =>
                      clear xk0 RWL RWR SJ ZE BP BQ BR1 BR2 B4 AL JE
                      cases t with
                      | true =>
                        have eN : k - 1 = nn := HN.out
                        have eI : (k : Int) - 1 = (nn : Int) := by omega
                        clear HN
                        go_wp2_with fail
                        go_meet
                        case rel => exact ⟨by first | rfl | (go_num; done) | exact congrArg (Value.int IntKind.i64) (by omega), rfl⟩
                      | false =>
                        have eN : k + 1 = nn := HN.out
                        have eI : (k : Int) + 1 = (nn : Int) := by omega
                        clear HN
                        go_wp2_with fail
                        go_meet
                        case rel => exact ⟨by first | rfl | (go_num; done) | exact congrArg (Value.int IntKind.i64) (by omega), rfl⟩
                    case rest =>
                      obtain ⟨rfl, hwc⟩ := hcut
                      rw [hwc]
                      clear hwc HN
                      clear xk0
                      obtain ⟨pp, rfl⟩ : ∃ pp, nn = pp + 1 := ⟨nn - 1, by omega⟩
                      have g5 : pp + 1 < M.length := by have := LM.out; omega
                      have g4 : pp < M.length := by omega
                      have SM : Hid (Sml M) := fun x hx => SJ.out x.it (by rw [JE.out]; exact List.mem_map_of_mem hx)
                      have ZI0 : Hid (Z = if (between (M.getD pp Iv.zero).key (M.getD (pp + 1) Iv.zero).key).2 = true then ⟨(Pv.pg ⟨kind, level, aI, cI, L, aD, cD, data, next⟩).wi (J.take (pp + 1)), (Pv.pg ⟨kind, level, aI2, cI2, R, aD2, cD2, data2, next2⟩).wi (J.drop (pp + 1)), (between (M.getD pp Iv.zero).key (M.getD (pp + 1) Iv.zero).key).1, true⟩ else Hv.none) := by
                        show _ = _
                        have e : J.getD (pp + 1) It.zero = (M.getD (pp + 1) Iv.zero).it := by rw [JE.out, it_getD]
                        have e2 : J.getD pp It.zero = (M.getD pp Iv.zero).it := by rw [JE.out, it_getD]
                        rw [ZE.out, prt_leaf (show ¬ (Pv.pg ⟨kind, level, aI2, cI2, R, aD2, cD2, data2, next2⟩).kind = 2 from hk2) (by omega) (by rw [JE.out, List.length_map]; exact g5), Nat.add_sub_cancel, e, e2]
                        rfl
                      have Z1 : Hid ((Pv.pg ⟨kind, level, aI, cI, L, aD, cD, data, next⟩).wi ((M.take (pp + 1)).map Iv.it) = (Pv.pg ⟨kind, level, aI, cI, L, aD, cD, data, next⟩).wi (J.take (pp + 1))) := by
                        show _ = _
                        rw [JE.out, List.map_take]
                      have Z2 : Hid ((Pv.pg ⟨kind, level, aI2, cI2, R, aD2, cD2, data2, next2⟩).wi ((M.drop (pp + 1)).map Iv.it) = (Pv.pg ⟨kind, level, aI2, cI2, R, aD2, cD2, data2, next2⟩).wi (J.drop (pp + 1))) := by
                        show _ = _
                        rw [JE.out, List.map_drop]
                      have SN := SM
                      have LN := LM
                      have EB := hide fun (W : World) (hb : Below wr.heap.size wr W) => eBetween_own W (M.getD pp Iv.zero).aK (M.getD (pp + 1) Iv.zero).aK (M.getD pp Iv.zero).key.length (M.getD pp Iv.zero).cK (M.getD (pp + 1) Iv.zero).key.length (M.getD (pp + 1) Iv.zero).cK _ _ ((AL.out.y _ (getD_memR g4)).ii.bk.keep hb) ((AL.out.y _ (getD_memR g5)).ii.bk.keep hb) rfl rfl
                      have SS9 := hide fun (W : World) (hb : Below wr.heap.size wr W) => And.intro ((AL.out.j.keep hb).item4 g4).1.1 ((AL.out.j.keep hb).item4 g5).1.1
                      have xk0 := (cells5 BP.out).1
                      have hk2' := hk2
                      clear SM JE ZE SJ hk2
                      generalize M.getD pp Iv.zero = v3 at *
                      generalize M.getD (pp + 1) Iv.zero = v4 at *
                      obtain ⟨tK, tcK, tkey, tV, tcV, tval, tch, tsz⟩ := v3
                      obtain ⟨hK, hcK, hkey, hV, hcV, hval, hch, hsz⟩ := v4
                      simp only at EB SS9 ZI0
                      have D9 := hide (dr2 wr)
                      have hpI : (pp : Int) < (K0 : Int) := by omega
                      have hp0 : (0 : Int) ≤ (pp : Int) + 1 := by omega
                      have hp1 : (0 : Int) ≤ (pp : Int) := by omega
                      have hpJ : (pp : Int) + 1 < (K0 : Int) := by omega
                      have WS : Hid (IntKind.i64.wrap (pp : Int) = (pp : Int)) := wrapI (by omega) (by omega)
                      cases hbt : (between tkey hkey).2 with
                      | true =>
                        rw [hbt] at EB ZI0
                        rw [if_pos rfl] at ZI0
                        have ZI := ZI0
                        clear hbt ZI0
                        go_upto_region 24 with fail
                        clear xk0
                        refine wp_region_held_drew (S := fun W => W.cell? ⟨ga, pp * 4, none⟩ = some (.slice tK tkey.length tcK) ∧ W.cell? ⟨ga, (pp + 1) * 4, none⟩ = some (.slice hK hkey.length hcK)) (by kernel_rfl) (SS9.out _ D9.out) (fun hHeld => ?_)
                        refine wpAnyH_take (i := 0) (v := ?val0) rfl (by kernel_rfl) (by kernel_rfl) (by kernel_rfl) (fun _ _ _ h => h) (Or.inl ⟨by rfl, ?hyl0⟩) (by assumption) ?ral0
                        case hyl0 => (intro wq hSw; (try dsimp only at hSw); obtain ⟨e0, e1⟩ := hSw; go_simp <;> with_reducible rfl)
                        try simp only [Act.put, List.getElem_toArray, List.getElem_cons_zero, List.setIfInBounds_toArray, List.set_cons_zero, List.set_cons_succ]
                        refine wpAnyH_take (i := 1) (v := ?val1) rfl (by kernel_rfl) (by kernel_rfl) (by kernel_rfl) (fun _ _ _ h => h) (Or.inl ⟨by rfl, ?hyl1⟩) (by assumption) ?ral1
                        case hyl1 => (intro wq hSw; (try dsimp only at hSw); obtain ⟨e0, e1⟩ := hSw; go_simp <;> with_reducible rfl)
                        try simp only [Act.put, List.getElem_toArray, List.getElem_cons_zero, List.getElem_cons_succ, List.setIfInBounds_toArray, List.set_cons_zero, List.set_cons_succ]
                        refine wpAnyH_take (i := 2) (v := ?val2) rfl (by kernel_rfl) (by kernel_rfl) (by kernel_rfl) (fun _ _ _ h => h) (Or.inl ⟨by rfl, ?hyl2⟩) (by assumption) ?ral2
                        case hyl2 => (intro wq hSw; (try dsimp only at hSw); obtain ⟨e0, e1⟩ := hSw; go_simp <;> with_reducible rfl)
                        try simp only [Act.put, List.getElem_toArray, List.getElem_cons_zero, List.getElem_cons_succ, List.setIfInBounds_toArray, List.set_cons_zero, List.set_cons_succ]
                        try simp only [WS.out]
                        refine wpAnyH_take (i := 3) (v := ?val3) rfl (by kernel_rfl) (by kernel_rfl) (by kernel_rfl) (fun _ _ _ h => h) (Or.inl ⟨by rfl, ?hyl3⟩) (by assumption) ?ral3
                        case hyl3 => (intro wq hSw; (try dsimp only at hSw); obtain ⟨e0, e1⟩ := hSw; go_simp <;> with_reducible rfl)
                        try simp only [Act.put, List.getElem_toArray, List.getElem_cons_zero, List.getElem_cons_succ, List.setIfInBounds_toArray, List.set_cons_zero, List.set_cons_succ]
                        refine wpAnyH_take (i := 4) (v := ?val4) rfl (by kernel_rfl) (by kernel_rfl) (by kernel_rfl) (fun _ _ _ h => h) (Or.inl ⟨by rfl, ?hyl4⟩) (by assumption) ?ral4
                        case hyl4 => (intro wq hSw; (try dsimp only at hSw); obtain ⟨e0, e1⟩ := hSw; go_simp <;> with_reducible rfl)
                        try simp only [Act.put, List.getElem_toArray, List.getElem_cons_zero, List.getElem_cons_succ, List.setIfInBounds_toArray, List.set_cons_zero, List.set_cons_succ]
                        refine wpAnyH_take (i := 5) (v := ?val5) rfl (by kernel_rfl) (by kernel_rfl) (by kernel_rfl) (fun _ _ _ h => h) (Or.inl ⟨by rfl, ?hyl5⟩) (by assumption) ?ral5
                        case hyl5 => (intro wq hSw; (try dsimp only at hSw); obtain ⟨e0, e1⟩ := hSw; go_simp <;> with_reducible rfl)
                        try simp only [Act.put, List.getElem_toArray, List.getElem_cons_zero, List.getElem_cons_succ, List.setIfInBounds_toArray, List.set_cons_zero, List.set_cons_succ]
                        refine wpAnyH_take (i := 6) (v := ?val6) rfl (by kernel_rfl) (by kernel_rfl) (by kernel_rfl) (fun _ _ _ h => h) (Or.inl ⟨by rfl, ?hyl6⟩) (by assumption) ?ral6
                        case hyl6 => (intro wq hSw; (try dsimp only at hSw); obtain ⟨e0, e1⟩ := hSw; go_simp <;> with_reducible rfl)
                        try simp only [Act.put, List.getElem_toArray, List.getElem_cons_zero, List.getElem_cons_succ, List.setIfInBounds_toArray, List.set_cons_zero, List.set_cons_succ]
                        refine wpAnyH_take (i := 7) (v := ?val7) rfl (by kernel_rfl) (by kernel_rfl) (by kernel_rfl) (fun _ _ _ h => h) (Or.inl ⟨by rfl, ?hyl7⟩) (by assumption) ?ral7
                        case hyl7 => (intro wq hSw; (try dsimp only at hSw); obtain ⟨e0, e1⟩ := hSw; go_simp <;> with_reducible rfl)
                        try simp only [Act.put, List.getElem_toArray, List.getElem_cons_zero, List.getElem_cons_succ, List.setIfInBounds_toArray, List.set_cons_zero, List.set_cons_succ]
                        refine wpAnyH_take (i := 8) (v := ?val8) rfl (by kernel_rfl) (by kernel_rfl) (by kernel_rfl) (fun _ _ _ h => h) (Or.inl ⟨by rfl, ?hyl8⟩) (by assumption) ?ral8
                        case hyl8 => (intro wq hSw; (try dsimp only at hSw); obtain ⟨e0, e1⟩ := hSw; go_simp <;> with_reducible rfl)
                        try simp only [Act.put, List.getElem_toArray, List.getElem_cons_zero, List.getElem_cons_succ, List.setIfInBounds_toArray, List.set_cons_zero, List.set_cons_succ]
                        refine wpAnyH_take (i := 9) (v := ?val9) rfl (by kernel_rfl) (by kernel_rfl) (by kernel_rfl) (fun _ _ _ h => h) (Or.inl ⟨by rfl, ?hyl9⟩) (by assumption) ?ral9
                        case hyl9 => (intro wq hSw; (try dsimp only at hSw); obtain ⟨e0, e1⟩ := hSw; go_simp <;> with_reducible rfl)
                        try simp only [Act.put, List.getElem_toArray, List.getElem_cons_zero, List.getElem_cons_succ, List.setIfInBounds_toArray, List.set_cons_zero, List.set_cons_succ]
                        refine wpAnyH_take (i := 10) (v := ?val10) rfl (by kernel_rfl) (by kernel_rfl) (by kernel_rfl) (fun _ _ _ h => h) (Or.inl ⟨by rfl, ?hyl10⟩) (by assumption) ?ral10
                        case hyl10 => (intro wq hSw; (try dsimp only at hSw); obtain ⟨e0, e1⟩ := hSw; go_simp <;> with_reducible rfl)
                        try simp only [Act.put, List.getElem_toArray, List.getElem_cons_zero, List.getElem_cons_succ, List.setIfInBounds_toArray, List.set_cons_zero, List.set_cons_succ]
                        refine wpAnyH_ready (rs := [11]) (by kernel_rfl) (by simp) ?_
                        refine AllReadyH.cons rfl (fun K hK => ?_) AllReadyH.nil
                        go_simp
                        refine (EB.out _ D9.out).mono ?_
                        rintro _ w6 ⟨a8, c8, rfl, hB, hb, hN⟩
                        have TB := hide hB
                        have TN : Hid (∀ x, a8 = some x → wr.heap.size ≤ x.block) := fun x hx => new_at hN hx
                        have B6 := hide (bt D9.out hb)
                        clear hB hb hN
                        go_wp2_with fail
                        refine hK.out _ _ (SS9.out _ B6.out) (fun hHeld => ?_)
                        clear hK K
                        try simp only [Act.put, List.getElem_toArray, List.getElem_cons_zero, List.getElem_cons_succ, List.setIfInBounds_toArray, List.set_cons_zero, List.set_cons_succ]
                        refine wpAnyH_take (i := 12) (v := ?val12) rfl (by kernel_rfl) (by kernel_rfl) (by kernel_rfl) (fun _ _ _ h => h) (Or.inl ⟨by rfl, ?hyl12⟩) (by assumption) ?ral12
                        case hyl12 => (intro wq hSw; (try dsimp only at hSw); obtain ⟨e0, e1⟩ := hSw; go_simp <;> with_reducible rfl)
                        try simp only [Act.put, List.getElem_toArray, List.getElem_cons_zero, List.getElem_cons_succ, List.setIfInBounds_toArray, List.set_cons_zero, List.set_cons_succ]
                        refine wpAnyH_take (i := 13) (v := ?val13) rfl (by kernel_rfl) (by kernel_rfl) (by kernel_rfl) (fun _ _ _ h => h) (Or.inl ⟨by rfl, ?hyl13⟩) (by assumption) ?ral13
                        case hyl13 => (intro wq hSw; (try dsimp only at hSw); obtain ⟨e0, e1⟩ := hSw; go_simp <;> with_reducible rfl)
                        try simp only [Act.put, List.getElem_toArray, List.getElem_cons_zero, List.getElem_cons_succ, List.setIfInBounds_toArray, List.set_cons_zero, List.set_cons_succ]
                        refine wpAnyH_take (i := 14) (v := ?val14) rfl (by kernel_rfl) (by kernel_rfl) (by kernel_rfl) (fun _ _ _ h => h) (Or.inl ⟨by rfl, ?hyl14⟩) (by assumption) ?ral14
                        case hyl14 => (intro wq hSw; (try dsimp only at hSw); obtain ⟨e0, e1⟩ := hSw; go_simp <;> with_reducible rfl)
                        try simp only [Act.put, List.getElem_toArray, List.getElem_cons_zero, List.getElem_cons_succ, List.setIfInBounds_toArray, List.set_cons_zero, List.set_cons_succ]
                        refine wpAnyH_take (i := 15) (v := ?val15) rfl (by kernel_rfl) (by kernel_rfl) (by kernel_rfl) (fun _ _ _ h => h) (Or.inl ⟨by rfl, ?hyl15⟩) (by assumption) ?ral15
                        case hyl15 => (intro wq hSw; (try dsimp only at hSw); obtain ⟨e0, e1⟩ := hSw; go_simp <;> with_reducible rfl)
                        try simp only [Act.put, List.getElem_toArray, List.getElem_cons_zero, List.getElem_cons_succ, List.setIfInBounds_toArray, List.set_cons_zero, List.set_cons_succ]
                        refine wpAnyH_take (i := 16) (v := ?val16) rfl (by kernel_rfl) (by kernel_rfl) (by kernel_rfl) (fun _ _ _ h => h) (Or.inl ⟨by rfl, ?hyl16⟩) (by assumption) ?ral16
                        case hyl16 => (intro wq hSw; (try dsimp only at hSw); obtain ⟨e0, e1⟩ := hSw; go_simp <;> with_reducible rfl)
                        try simp only [Act.put, List.getElem_toArray, List.getElem_cons_zero, List.getElem_cons_succ, List.setIfInBounds_toArray, List.set_cons_zero, List.set_cons_succ]
                        refine wpAnyH_done (by kernel_rfl) ?_ _
                        clear hHeld SS9 EB
                        go_upto_region 27 with fail
                        have BPn := hide (blk_keep BP.out B6.out)
                        have BQn := hide (blk_keep BQ.out B6.out)
                        have BR1n := hide (blk_keep BR1.out B6.out)
                        have BR2n := hide (blk_keep BR2.out B6.out)
                        have B4n := hide (bt B4.out B6.out)
                        have ALn := hide (AL.out.keep B6.out)
                        clear BP BQ BR1 BR2 B4 AL
                        have BP := BPn
                        have BQ := BQn
                        have BR1 := BR1n
                        have BR2 := BR2n
                        have B4 := B4n
                        have AL := ALn
                        clear BPn BQn BR1n BR2n B4n ALn B6 D9 WS
                        have SS := hide fun (W : World) (hb : Below w6.heap.size w6 W) => And.intro (cells5 (blk_keep BP.out hb)) (cells5 (blk_keep BQ.out hb))
                        have DD := hide (dr2 w6)
                        have hjs := AL.out.js (by rw [LN.out]; omega)
                        have RA := hide fun (W : World) (hb : Below w6.heap.size w6 W) => RWL.out W (bt B4.out hb) (some ⟨ga, 0, none⟩) (pp + 1) cj (M.take (pp + 1)) ((hjs.take (pp + 1)).keep hb) (by rw [List.length_take, LN.out]; omega) (SN.out.take (pp + 1))
                        have RB := hide fun (W : World) (hb : Below w6.heap.size w6 W) => RWR.out W (bt B4.out hb) (some ⟨ga, 0 + (pp + 1) * 4, none⟩) (K0 - (pp + 1)) (cj - (pp + 1)) (M.drop (pp + 1)) ((hjs.drop (pp + 1)).keep hb) (by rw [List.length_drop, LN.out]) (SN.out.drop (pp + 1))
                        obtain ⟨hc1, -⟩ : K0 ≤ cj ∧ cj ≤ maxLen := by obtain ⟨_, _, h1, h2⟩ := AL.out.j.addr (by rw [LN.out]; omega); rw [LN.out] at h1; exact ⟨h1, h2⟩
                        have hc2 : (pp + 1) ≤ cj := by omega
                        have hc3 : ((pp + 1 : Nat) : Int) ≤ (cj : Int) := by omega
                        have hc4 : ¬ cj = (pp + 1) := by omega
                        have hc5 : ((pp + 1 : Nat) : Int) ≤ (K0 : Int) := by omega
                        have hc6 : (0 : Int) ≤ ((pp + 1 : Nat) : Int) := by omega
                        have hc7 : (K0 : Int) ≤ (cj : Int) := by omega
                        have hd1 : (pp : Int) + 1 ≤ (cj : Int) := by omega
                        have hd2 : (pp : Int) + 1 ≤ (K0 : Int) := by omega
                        have hd3 : pp + 1 ≤ cj := by omega
                        have hzW : w.heap.size + 3 < w6.heap.size := (Array.getElem?_eq_some_iff.1 BR2.out).1
                        simp only [Nat.zero_add] at RB
                        clear hjs RWL RWR
                        refine wp_region_held_drew (S := fun W => (W.cell? ⟨w.heap.size, 0, none⟩ = some (.int .i64 kind) ∧ W.cell? ⟨w.heap.size, 1, none⟩ = some (.int .i64 level) ∧ W.cell? ⟨w.heap.size, 2, none⟩ = some (.slice aI k cI) ∧ W.cell? ⟨w.heap.size, 3, none⟩ = some (.slice aD data.length cD) ∧ W.cell? ⟨w.heap.size, 4, none⟩ = some (.int .i64 next)) ∧ (W.cell? ⟨w.heap.size + 1, 0, none⟩ = some (.int .i64 kind) ∧ W.cell? ⟨w.heap.size + 1, 1, none⟩ = some (.int .i64 level) ∧ W.cell? ⟨w.heap.size + 1, 2, none⟩ = some (.slice aI2 j cI2) ∧ W.cell? ⟨w.heap.size + 1, 3, none⟩ = some (.slice aD2 data2.length cD2) ∧ W.cell? ⟨w.heap.size + 1, 4, none⟩ = some (.int .i64 next2))) (by kernel_rfl) (SS.out _ DD.out) (fun hHeld => ?_)
                        refine wpAnyH_take (i := 0) (v := ?var0) rfl (by kernel_rfl) (by kernel_rfl) (by kernel_rfl) (fun _ _ _ h => h) (Or.inl ⟨by rfl, ?hyr0⟩) (by assumption) ?rar0
                        case hyr0 => (intro wq hSw; (try dsimp only at hSw); obtain ⟨⟨e0, e1, e2, e3, e4⟩, f0, f1, f2, f3, f4⟩ := hSw; go_simp <;> with_reducible rfl)
                        try simp only [Act.put, List.getElem_toArray, List.getElem_cons_zero, List.setIfInBounds_toArray, List.set_cons_zero, List.set_cons_succ]
                        refine wpAnyH_take (i := 1) (v := ?var1) rfl (by kernel_rfl) (by kernel_rfl) (by kernel_rfl) (fun _ _ _ h => h) (Or.inl ⟨by rfl, ?hyr1⟩) (by assumption) ?rar1
                        case hyr1 => (intro wq hSw; (try dsimp only at hSw); obtain ⟨⟨e0, e1, e2, e3, e4⟩, f0, f1, f2, f3, f4⟩ := hSw; go_simp <;> with_reducible rfl)
                        try simp only [Act.put, List.getElem_toArray, List.getElem_cons_zero, List.getElem_cons_succ, List.setIfInBounds_toArray, List.set_cons_zero, List.set_cons_succ]
                        refine wpAnyH_take (i := 2) (v := ?var2) rfl (by kernel_rfl) (by kernel_rfl) (by kernel_rfl) (fun _ _ _ h => h) (Or.inl ⟨by rfl, ?hyr2⟩) (by assumption) ?rar2
                        case hyr2 => (intro wq hSw; (try dsimp only at hSw); obtain ⟨⟨e0, e1, e2, e3, e4⟩, f0, f1, f2, f3, f4⟩ := hSw; go_simp <;> with_reducible rfl)
                        try simp only [Act.put, List.getElem_toArray, List.getElem_cons_zero, List.getElem_cons_succ, List.setIfInBounds_toArray, List.set_cons_zero, List.set_cons_succ]
                        refine wpAnyH_take (i := 3) (v := ?var3) rfl (by kernel_rfl) (by kernel_rfl) (by kernel_rfl) (fun _ _ _ h => h) (Or.inl ⟨by rfl, ?hyr3⟩) (by assumption) ?rar3
                        case hyr3 => (intro wq hSw; (try dsimp only at hSw); obtain ⟨⟨e0, e1, e2, e3, e4⟩, f0, f1, f2, f3, f4⟩ := hSw; go_simp <;> with_reducible rfl)
                        try simp only [Act.put, List.getElem_toArray, List.getElem_cons_zero, List.getElem_cons_succ, List.setIfInBounds_toArray, List.set_cons_zero, List.set_cons_succ]
                        refine wpAnyH_take (i := 5) (v := ?var5) rfl (by kernel_rfl) (by kernel_rfl) (by kernel_rfl) (fun _ _ _ h => h) (Or.inl ⟨by rfl, ?hyr5⟩) (by assumption) ?rar5
                        case hyr5 => (intro wq hSw; (try dsimp only at hSw); obtain ⟨⟨e0, e1, e2, e3, e4⟩, f0, f1, f2, f3, f4⟩ := hSw; go_simp <;> with_reducible rfl)
                        try simp only [Act.put, List.getElem_toArray, List.getElem_cons_zero, List.getElem_cons_succ, List.setIfInBounds_toArray, List.set_cons_zero, List.set_cons_succ]
                        refine wpAnyH_take (i := 6) (v := ?var6) rfl (by kernel_rfl) (by kernel_rfl) (by kernel_rfl) (fun _ _ _ h => h) (Or.inl ⟨by rfl, ?hyr6⟩) (by assumption) ?rar6
                        case hyr6 => (intro wq hSw; (try dsimp only at hSw); obtain ⟨⟨e0, e1, e2, e3, e4⟩, f0, f1, f2, f3, f4⟩ := hSw; go_simp <;> with_reducible rfl)
                        try simp only [Act.put, List.getElem_toArray, List.getElem_cons_zero, List.getElem_cons_succ, List.setIfInBounds_toArray, List.set_cons_zero, List.set_cons_succ]
                        refine wpAnyH_take (i := 7) (v := ?var7) rfl (by kernel_rfl) (by kernel_rfl) (by kernel_rfl) (fun _ _ _ h => h) (Or.inl ⟨by rfl, ?hyr7⟩) (by assumption) ?rar7
                        case hyr7 => (intro wq hSw; (try dsimp only at hSw); obtain ⟨⟨e0, e1, e2, e3, e4⟩, f0, f1, f2, f3, f4⟩ := hSw; go_simp <;> with_reducible rfl)
                        try simp only [Act.put, List.getElem_toArray, List.getElem_cons_zero, List.getElem_cons_succ, List.setIfInBounds_toArray, List.set_cons_zero, List.set_cons_succ]
                        refine wpAnyH_take (i := 8) (v := ?var8) rfl (by kernel_rfl) (by kernel_rfl) (by kernel_rfl) (fun _ _ _ h => h) (Or.inl ⟨by rfl, ?hyr8⟩) (by assumption) ?rar8
                        case hyr8 => (intro wq hSw; (try dsimp only at hSw); obtain ⟨⟨e0, e1, e2, e3, e4⟩, f0, f1, f2, f3, f4⟩ := hSw; go_simp <;> with_reducible rfl)
                        try simp only [Act.put, List.getElem_toArray, List.getElem_cons_zero, List.getElem_cons_succ, List.setIfInBounds_toArray, List.set_cons_zero, List.set_cons_succ]
                        refine wpAnyH_take (i := 10) (v := ?var10) rfl (by kernel_rfl) (by kernel_rfl) (by kernel_rfl) (fun _ _ _ h => h) (Or.inl ⟨by rfl, ?hyr10⟩) (by assumption) ?rar10
                        case hyr10 => (intro wq hSw; (try dsimp only at hSw); obtain ⟨⟨e0, e1, e2, e3, e4⟩, f0, f1, f2, f3, f4⟩ := hSw; go_simp <;> with_reducible rfl)
                        try simp only [Act.put, List.getElem_toArray, List.getElem_cons_zero, List.getElem_cons_succ, List.setIfInBounds_toArray, List.set_cons_zero, List.set_cons_succ]
                        refine wpAnyH_ready (rs := [4]) (by kernel_rfl) (by simp) ?_
                        refine AllReadyH.cons rfl (fun K hK => ?_) AllReadyH.nil
                        go_simp
                        refine (RA.out _ DD.out).mono ?_
                        rintro _ w10 ⟨q1, rfl, hn1, hg1, hb1⟩
                        have N1 := hide hn1
                        have G1 := hide hg1
                        have B10 := hide (bt DD.out hb1)
                        clear hn1 hg1 hb1
                        go_wp2_with fail
                        refine hK.out _ _ (SS.out _ B10.out) (fun hHeld => ?_)
                        clear hK K
                        try simp only [Act.put, List.getElem_toArray, List.getElem_cons_zero, List.getElem_cons_succ, List.setIfInBounds_toArray, List.set_cons_zero, List.set_cons_succ]
                        refine wpAnyH_ready (rs := [9]) (by kernel_rfl) (by simp) ?_
                        refine AllReadyH.cons rfl (fun K hK => ?_) AllReadyH.nil
                        go_simp
                        refine (RB.out _ B10.out).mono ?_
                        rintro _ w11 ⟨q2, rfl, hn2, hg2, hb2⟩
                        have NQ2 := hide hn2
                        have G2 := hide hg2
                        have N1' := hide (N1.out.keep hb2)
                        have B11 := hide (bt B10.out hb2)
                        clear hn2 hg2 hb2 N1
                        go_wp2_with fail
                        refine hK.out _ _ (SS.out _ B11.out) (fun hHeld => ?_)
                        clear hK K
                        try simp only [Act.put, List.getElem_toArray, List.getElem_cons_zero, List.getElem_cons_succ, List.setIfInBounds_toArray, List.set_cons_zero, List.set_cons_succ]
                        have BR11 := hide (blk_keep BR1.out B11.out)
                        have BR12 := hide (blk_keep BR2.out B11.out)
                        have BX1 := hide (setRow_heap w11 (w.heap.size + 2) _ q1.cs _ _ BR11.out)
                        have BX2 := hide (row_far (W := w11) (g := w.heap.size + 2) q1.cs BR12.out (by omega))
                        have BY1 := hide (row_far (g := w.heap.size + 3) q2.cs BX1.out (by omega))
                        have BY2 := hide (setRow_heap _ (w.heap.size + 3) _ q2.cs _ _ BX2.out)
                        simp only [Pv.cs] at BX1 BX2 BY1 BY2
                        refine wpAnyH_ready (rs := [11]) (by kernel_rfl) (by simp) ?_
                        refine AllReadyH.cons rfl (fun K hK => ?_) AllReadyH.nil
                        rw [if_pos (by rfl)]
                        refine wp_store_row 25 _ _ rfl (w.heap.size + 2) _ rfl rfl 25 _ BR11.out sizePage rfl (by simp [Value.oneCell']) ?_
                        refine hK.out _ _ (⟨cells5 (row_far _ (blk_keep BP.out B11.out) (by omega)), cells5 (row_far _ (blk_keep BQ.out B11.out) (by omega))⟩) (fun hHeld => ?_)
                        clear hK K
                        try simp only [Act.put, List.getElem_toArray, List.getElem_cons_zero, List.getElem_cons_succ, List.setIfInBounds_toArray, List.set_cons_zero, List.set_cons_succ]
                        refine wpAnyH_ready (rs := [12]) (by kernel_rfl) (by simp) ?_
                        refine AllReadyH.cons rfl (fun K hK => ?_) AllReadyH.nil
                        rw [if_pos (by rfl)]
                        refine wp_store_row 25 _ _ rfl (w.heap.size + 3) _ rfl rfl 25 _ BX2.out sizePage rfl (by simp [Value.oneCell']) ?_
                        refine hK.out _ _ (⟨cells5 (row_far _ (row_far _ (blk_keep BP.out B11.out) (by omega)) (by omega)), cells5 (row_far _ (row_far _ (blk_keep BQ.out B11.out) (by omega)) (by omega))⟩) (fun hHeld => ?_)
                        clear hK K
                        try simp only [Act.put, List.getElem_toArray, List.getElem_cons_zero, List.getElem_cons_succ, List.setIfInBounds_toArray, List.set_cons_zero, List.set_cons_succ]
                        refine wpAnyH_take (i := 13) (v := ?var13) rfl (by kernel_rfl) (by kernel_rfl) (by kernel_rfl) (fun _ _ _ h => h) (Or.inl ⟨by rfl, ?hyr13⟩) (by assumption) ?rar13
                        case hyr13 => (intro wq hSw; (try dsimp only at hSw); obtain ⟨⟨e0, e1, e2, e3, e4⟩, f0, f1, f2, f3, f4⟩ := hSw; go_simp <;> with_reducible rfl)
                        try simp only [Act.put, List.getElem_toArray, List.getElem_cons_zero, List.getElem_cons_succ, List.setIfInBounds_toArray, List.set_cons_zero, List.set_cons_succ]
                        refine wpAnyH_take (i := 14) (v := ?var14) rfl (by kernel_rfl) (by kernel_rfl) (by kernel_rfl) (fun _ _ _ h => h) (Or.inl ⟨by rfl, ?hyr14⟩) (by assumption) ?rar14
                        case hyr14 => (intro wq hSw; (try dsimp only at hSw); obtain ⟨⟨e0, e1, e2, e3, e4⟩, f0, f1, f2, f3, f4⟩ := hSw; go_simp <;> with_reducible rfl)
                        try simp only [Act.put, List.getElem_toArray, List.getElem_cons_zero, List.getElem_cons_succ, List.setIfInBounds_toArray, List.set_cons_zero, List.set_cons_succ]
                        refine wpAnyH_done (by kernel_rfl) ?_ _
                        clear hHeld
                        go_wp2_with fail
                        refine bodyPost_ret (v := .tuple #[.agg _, .agg _, _, _]) (results_cells Try.results10 _ _ (w.heap.size + 2) (w.heap.size + 3) 25 25 _ _ (0, 0) (0, 0) _ rfl BY1.out rfl BY2.out Try.underlying25 rfl sizePage sizePage) rfl ?_
                        have p1 := (N1'.out.row (show Bx w11 25 _ _ from BR11.out) (by decide) (by decide) q1.cs).row (show Bx _ 25 _ _ from BX2.out) (by decide) (by decide) q2.cs
                        have p2 := (NQ2.out.row (show Bx w11 25 _ _ from BR11.out) (by decide) (by decide) q1.cs).row (show Bx _ 25 _ _ from BX2.out) (by decide) (by decide) q2.cs
                        have tb := ((TB.out.keep B11.out).butS (but_setRow w11 (w.heap.size + 2) q1.cs) (fun x hx e => by have := TN.out x hx; omega)).butS (but_setRow _ (w.heap.size + 3) q2.cs) (fun x hx e => by have := TN.out x hx; omega)
                        have e1 : q1.items.length ≤ 2199023255520 := by
                          have := congrArg (fun p : Pg => p.items.length) G1.out
                          simp only [Pv.pg, Pg.wi, List.length_map, List.length_take, LN.out] at this
                          omega
                        have e2 : q2.items.length ≤ 2199023255520 := by
                          have := congrArg (fun p : Pg => p.items.length) G2.out
                          simp only [Pv.pg, Pg.wi, List.length_map, List.length_drop, LN.out] at this
                          omega
                        have bw := below_row q2.cs (below_row q1.cs (bt B4.out B11.out) (show w.heap.size ≤ w.heap.size + 2 by omega)) (show w.heap.size ≤ w.heap.size + 3 by omega)
                        rw [ZI.out]
                        exact ⟨q1, q2, a8, c8, rfl, p1.pi e1, p2.pi e2, tb, G1.out.trans Z1.out, G2.out.trans Z2.out, bw⟩
                      | false =>
                        rw [hbt] at EB ZI0
                        rw [if_neg (by decide)] at ZI0
                        have ZE := ZI0
                        clear hbt ZI0 RWL RWR Z1 Z2
                        go_upto_region 24 with fail
                        clear xk0
                        refine wp_region_held_drew (S := fun W => W.cell? ⟨ga, pp * 4, none⟩ = some (.slice tK tkey.length tcK) ∧ W.cell? ⟨ga, (pp + 1) * 4, none⟩ = some (.slice hK hkey.length hcK)) (by kernel_rfl) (SS9.out _ D9.out) (fun hHeld => ?_)
                        refine wpAnyH_take (i := 0) (v := ?van0) rfl (by kernel_rfl) (by kernel_rfl) (by kernel_rfl) (fun _ _ _ h => h) (Or.inl ⟨by rfl, ?hyn0⟩) (by assumption) ?ran0
                        case hyn0 => (intro wq hSw; (try dsimp only at hSw); obtain ⟨e0, e1⟩ := hSw; go_simp <;> with_reducible rfl)
                        try simp only [Act.put, List.getElem_toArray, List.getElem_cons_zero, List.setIfInBounds_toArray, List.set_cons_zero, List.set_cons_succ]
                        refine wpAnyH_take (i := 1) (v := ?van1) rfl (by kernel_rfl) (by kernel_rfl) (by kernel_rfl) (fun _ _ _ h => h) (Or.inl ⟨by rfl, ?hyn1⟩) (by assumption) ?ran1
                        case hyn1 => (intro wq hSw; (try dsimp only at hSw); obtain ⟨e0, e1⟩ := hSw; go_simp <;> with_reducible rfl)
                        try simp only [Act.put, List.getElem_toArray, List.getElem_cons_zero, List.getElem_cons_succ, List.setIfInBounds_toArray, List.set_cons_zero, List.set_cons_succ]
                        refine wpAnyH_take (i := 2) (v := ?van2) rfl (by kernel_rfl) (by kernel_rfl) (by kernel_rfl) (fun _ _ _ h => h) (Or.inl ⟨by rfl, ?hyn2⟩) (by assumption) ?ran2
                        case hyn2 => (intro wq hSw; (try dsimp only at hSw); obtain ⟨e0, e1⟩ := hSw; go_simp <;> with_reducible rfl)
                        try simp only [Act.put, List.getElem_toArray, List.getElem_cons_zero, List.getElem_cons_succ, List.setIfInBounds_toArray, List.set_cons_zero, List.set_cons_succ]
                        try simp only [WS.out]
                        refine wpAnyH_take (i := 3) (v := ?van3) rfl (by kernel_rfl) (by kernel_rfl) (by kernel_rfl) (fun _ _ _ h => h) (Or.inl ⟨by rfl, ?hyn3⟩) (by assumption) ?ran3
                        case hyn3 => (intro wq hSw; (try dsimp only at hSw); obtain ⟨e0, e1⟩ := hSw; go_simp <;> with_reducible rfl)
                        try simp only [Act.put, List.getElem_toArray, List.getElem_cons_zero, List.getElem_cons_succ, List.setIfInBounds_toArray, List.set_cons_zero, List.set_cons_succ]
                        refine wpAnyH_take (i := 4) (v := ?van4) rfl (by kernel_rfl) (by kernel_rfl) (by kernel_rfl) (fun _ _ _ h => h) (Or.inl ⟨by rfl, ?hyn4⟩) (by assumption) ?ran4
                        case hyn4 => (intro wq hSw; (try dsimp only at hSw); obtain ⟨e0, e1⟩ := hSw; go_simp <;> with_reducible rfl)
                        try simp only [Act.put, List.getElem_toArray, List.getElem_cons_zero, List.getElem_cons_succ, List.setIfInBounds_toArray, List.set_cons_zero, List.set_cons_succ]
                        refine wpAnyH_take (i := 5) (v := ?van5) rfl (by kernel_rfl) (by kernel_rfl) (by kernel_rfl) (fun _ _ _ h => h) (Or.inl ⟨by rfl, ?hyn5⟩) (by assumption) ?ran5
                        case hyn5 => (intro wq hSw; (try dsimp only at hSw); obtain ⟨e0, e1⟩ := hSw; go_simp <;> with_reducible rfl)
                        try simp only [Act.put, List.getElem_toArray, List.getElem_cons_zero, List.getElem_cons_succ, List.setIfInBounds_toArray, List.set_cons_zero, List.set_cons_succ]
                        refine wpAnyH_take (i := 6) (v := ?van6) rfl (by kernel_rfl) (by kernel_rfl) (by kernel_rfl) (fun _ _ _ h => h) (Or.inl ⟨by rfl, ?hyn6⟩) (by assumption) ?ran6
                        case hyn6 => (intro wq hSw; (try dsimp only at hSw); obtain ⟨e0, e1⟩ := hSw; go_simp <;> with_reducible rfl)
                        try simp only [Act.put, List.getElem_toArray, List.getElem_cons_zero, List.getElem_cons_succ, List.setIfInBounds_toArray, List.set_cons_zero, List.set_cons_succ]
                        refine wpAnyH_take (i := 7) (v := ?van7) rfl (by kernel_rfl) (by kernel_rfl) (by kernel_rfl) (fun _ _ _ h => h) (Or.inl ⟨by rfl, ?hyn7⟩) (by assumption) ?ran7
                        case hyn7 => (intro wq hSw; (try dsimp only at hSw); obtain ⟨e0, e1⟩ := hSw; go_simp <;> with_reducible rfl)
                        try simp only [Act.put, List.getElem_toArray, List.getElem_cons_zero, List.getElem_cons_succ, List.setIfInBounds_toArray, List.set_cons_zero, List.set_cons_succ]
                        refine wpAnyH_take (i := 8) (v := ?van8) rfl (by kernel_rfl) (by kernel_rfl) (by kernel_rfl) (fun _ _ _ h => h) (Or.inl ⟨by rfl, ?hyn8⟩) (by assumption) ?ran8
                        case hyn8 => (intro wq hSw; (try dsimp only at hSw); obtain ⟨e0, e1⟩ := hSw; go_simp <;> with_reducible rfl)
                        try simp only [Act.put, List.getElem_toArray, List.getElem_cons_zero, List.getElem_cons_succ, List.setIfInBounds_toArray, List.set_cons_zero, List.set_cons_succ]
                        refine wpAnyH_take (i := 9) (v := ?van9) rfl (by kernel_rfl) (by kernel_rfl) (by kernel_rfl) (fun _ _ _ h => h) (Or.inl ⟨by rfl, ?hyn9⟩) (by assumption) ?ran9
                        case hyn9 => (intro wq hSw; (try dsimp only at hSw); obtain ⟨e0, e1⟩ := hSw; go_simp <;> with_reducible rfl)
                        try simp only [Act.put, List.getElem_toArray, List.getElem_cons_zero, List.getElem_cons_succ, List.setIfInBounds_toArray, List.set_cons_zero, List.set_cons_succ]
                        refine wpAnyH_take (i := 10) (v := ?van10) rfl (by kernel_rfl) (by kernel_rfl) (by kernel_rfl) (fun _ _ _ h => h) (Or.inl ⟨by rfl, ?hyn10⟩) (by assumption) ?ran10
                        case hyn10 => (intro wq hSw; (try dsimp only at hSw); obtain ⟨e0, e1⟩ := hSw; go_simp <;> with_reducible rfl)
                        try simp only [Act.put, List.getElem_toArray, List.getElem_cons_zero, List.getElem_cons_succ, List.setIfInBounds_toArray, List.set_cons_zero, List.set_cons_succ]
                        refine wpAnyH_ready (rs := [11]) (by kernel_rfl) (by simp) ?_
                        refine AllReadyH.cons rfl (fun K hK => ?_) AllReadyH.nil
                        go_simp
                        refine (EB.out _ D9.out).mono ?_
                        rintro _ w6 ⟨a8, c8, rfl, hB, hb, hN⟩
                        have TB := hide hB
                        have TN : Hid (∀ x, a8 = some x → wr.heap.size ≤ x.block) := fun x hx => new_at hN hx
                        have B6 := hide (bt D9.out hb)
                        clear hB hb hN
                        go_wp2_with fail
                        refine hK.out _ _ (SS9.out _ B6.out) (fun hHeld => ?_)
                        clear hK K
                        try simp only [Act.put, List.getElem_toArray, List.getElem_cons_zero, List.getElem_cons_succ, List.setIfInBounds_toArray, List.set_cons_zero, List.set_cons_succ]
                        refine wpAnyH_take (i := 12) (v := ?van12) rfl (by kernel_rfl) (by kernel_rfl) (by kernel_rfl) (fun _ _ _ h => h) (Or.inl ⟨by rfl, ?hyn12⟩) (by assumption) ?ran12
                        case hyn12 => (intro wq hSw; (try dsimp only at hSw); obtain ⟨e0, e1⟩ := hSw; go_simp <;> with_reducible rfl)
                        try simp only [Act.put, List.getElem_toArray, List.getElem_cons_zero, List.getElem_cons_succ, List.setIfInBounds_toArray, List.set_cons_zero, List.set_cons_succ]
                        refine wpAnyH_take (i := 13) (v := ?van13) rfl (by kernel_rfl) (by kernel_rfl) (by kernel_rfl) (fun _ _ _ h => h) (Or.inl ⟨by rfl, ?hyn13⟩) (by assumption) ?ran13
                        case hyn13 => (intro wq hSw; (try dsimp only at hSw); obtain ⟨e0, e1⟩ := hSw; go_simp <;> with_reducible rfl)
                        try simp only [Act.put, List.getElem_toArray, List.getElem_cons_zero, List.getElem_cons_succ, List.setIfInBounds_toArray, List.set_cons_zero, List.set_cons_succ]
                        refine wpAnyH_take (i := 14) (v := ?van14) rfl (by kernel_rfl) (by kernel_rfl) (by kernel_rfl) (fun _ _ _ h => h) (Or.inl ⟨by rfl, ?hyn14⟩) (by assumption) ?ran14
                        case hyn14 => (intro wq hSw; (try dsimp only at hSw); obtain ⟨e0, e1⟩ := hSw; go_simp <;> with_reducible rfl)
                        try simp only [Act.put, List.getElem_toArray, List.getElem_cons_zero, List.getElem_cons_succ, List.setIfInBounds_toArray, List.set_cons_zero, List.set_cons_succ]
                        refine wpAnyH_take (i := 15) (v := ?van15) rfl (by kernel_rfl) (by kernel_rfl) (by kernel_rfl) (fun _ _ _ h => h) (Or.inl ⟨by rfl, ?hyn15⟩) (by assumption) ?ran15
                        case hyn15 => (intro wq hSw; (try dsimp only at hSw); obtain ⟨e0, e1⟩ := hSw; go_simp <;> with_reducible rfl)
                        try simp only [Act.put, List.getElem_toArray, List.getElem_cons_zero, List.getElem_cons_succ, List.setIfInBounds_toArray, List.set_cons_zero, List.set_cons_succ]
                        refine wpAnyH_take (i := 16) (v := ?van16) rfl (by kernel_rfl) (by kernel_rfl) (by kernel_rfl) (fun _ _ _ h => h) (Or.inl ⟨by rfl, ?hyn16⟩) (by assumption) ?ran16
                        case hyn16 => (intro wq hSw; (try dsimp only at hSw); obtain ⟨e0, e1⟩ := hSw; go_simp <;> with_reducible rfl)
                        try simp only [Act.put, List.getElem_toArray, List.getElem_cons_zero, List.getElem_cons_succ, List.setIfInBounds_toArray, List.set_cons_zero, List.set_cons_succ]
                        refine wpAnyH_done (by kernel_rfl) ?_ _
                        clear hHeld SS9 EB
                        have BR1n := hide (blk_keep BR1.out B6.out)
                        have BR2n := hide (blk_keep BR2.out B6.out)
                        have B4n := hide (bt B4.out B6.out)
                        clear BR1 BR2 B4
                        have BR1 := BR1n
                        have BR2 := BR2n
                        have B4 := B4n
                        have BX1 := hide (setRow_heap w6 (w.heap.size + 2) _ #[.int .i64 0, .int .i64 0, .slice none 0 0, .slice none 0 0, .int .i64 0] _ _ BR1.out)
                        have BX2 := hide (row_far (W := w6) (g := w.heap.size + 2) #[.int .i64 0, .int .i64 0, .slice none 0 0, .slice none 0 0, .int .i64 0] BR2.out (by omega))
                        have BY1 := hide (row_far (g := w.heap.size + 3) #[.int .i64 0, .int .i64 0, .slice none 0 0, .slice none 0 0, .int .i64 0] BX1.out (by omega))
                        have BY2 := hide (setRow_heap _ (w.heap.size + 3) _ #[.int .i64 0, .int .i64 0, .slice none 0 0, .slice none 0 0, .int .i64 0] _ _ BX2.out)
                        go_wp2_with (first | (refine wpList_store_row rfl 25 _ _ rfl (w.heap.size + 2) _ rfl rfl 25 _ BR1.out sizePage rfl (by simp [Value.oneCell']) ?_) | (refine wpList_store_row rfl 25 _ _ rfl (w.heap.size + 3) _ rfl rfl 25 _ BX2.out sizePage rfl (by simp [Value.oneCell']) ?_) | fail)
                        refine bodyPost_ret (v := .tuple #[.agg _, .agg _, _, _]) (results_cells Try.results10 _ _ (w.heap.size + 2) (w.heap.size + 3) 25 25 _ _ (0, 0) (0, 0) _ rfl BY1.out rfl BY2.out Try.underlying25 rfl sizePage sizePage) rfl ?_
                        rw [ZE.out]
                        exact ⟨Pv.zero, Pv.zero, none, 0, rfl, Pi.zero _, Pi.zero _, Bs.nil _, rfl, rfl, below_row _ (below_row _ B4.out (by omega)) (by omega)⟩
    · have h2b : (level != level2) = true := by simpa using h2
      have AF : Hid (A = false) := by show _ = _; rw [HA.out]; simp [h2]
      clear hk h2 HA
      rw [if_neg (fun h => by have := h.1; rw [AF.out] at this; cases this)] at ZE
      clear RWL RWR CB SJ JI JL JR SL SR NB HN S8
      clear LE1 LE2 HBm
      go_enter Try.func10, Try.ntmps10
      go_wp2_with fail
      refine (ME.out _).mono ?_
      rintro _ w4 ⟨rfl, h4⟩
      have BP := hide (blk_keep U4.out.1 h4)
      have BQ := hide (blk_keep U4.out.2.1 h4)
      have BR1 := hide (blk_keep U4.out.2.2.1 h4)
      have BR2 := hide (blk_keep U4.out.2.2.2.1 h4)
      have B4 := hide (bt U4.out.2.2.2.2 h4)
      clear h4 U4 ME
      obtain ⟨x0, x1, x2, x3, x4⟩ := cells5 BP.out
      obtain ⟨y0, y1, y2, y3, y4⟩ := cells5 BQ.out
      have BX1 := hide (setRow_heap w4 (w.heap.size + 2) _ #[.int .i64 0, .int .i64 0, .slice none 0 0, .slice none 0 0, .int .i64 0] _ _ BR1.out)
      have BX2 := hide (row_far (W := w4) (g := w.heap.size + 2) #[.int .i64 0, .int .i64 0, .slice none 0 0, .slice none 0 0, .int .i64 0] BR2.out (by omega))
      have BY1 := hide (row_far (g := w.heap.size + 3) #[.int .i64 0, .int .i64 0, .slice none 0 0, .slice none 0 0, .int .i64 0] BX1.out (by omega))
      have BY2 := hide (setRow_heap _ (w.heap.size + 3) _ #[.int .i64 0, .int .i64 0, .slice none 0 0, .slice none 0 0, .int .i64 0] _ _ BX2.out)
      go_wp2_with (first | (refine wpList_store_row rfl 25 _ _ rfl (w.heap.size + 2) _ rfl rfl 25 _ BR1.out sizePage rfl (by simp [Value.oneCell']) ?_) | (refine wpList_store_row rfl 25 _ _ rfl (w.heap.size + 3) _ rfl rfl 25 _ BX2.out sizePage rfl (by simp [Value.oneCell']) ?_) | fail)
      refine bodyPost_ret (v := .tuple #[.agg _, .agg _, _, _]) (results_cells Try.results10 _ _ (w.heap.size + 2) (w.heap.size + 3) 25 25 _ _ (0, 0) (0, 0) _ rfl BY1.out rfl BY2.out Try.underlying25 rfl sizePage sizePage) rfl ?_
      rw [ZE.out]
      exact ⟨Pv.zero, Pv.zero, none, 0, rfl, Pi.zero _, Pi.zero _, Bs.nil _, rfl, rfl, below_row _ (below_row _ B4.out (by omega)) (by omega)⟩
  · have h1b : (kind != kind2) = true := by simpa using h1
    have AF : Hid (A = false) := by show _ = _; rw [HA.out]; simp [h1]
    clear hk h1 HA
    rw [if_neg (fun h => by have := h.1; rw [AF.out] at this; cases this)] at ZE
    clear RWL RWR CB SJ JI JL JR SL SR NB HN S8
    clear LE1 LE2 HBm
    go_enter Try.func10, Try.ntmps10
    go_wp2_with fail
    refine (ME.out _).mono ?_
    rintro _ w4 ⟨rfl, h4⟩
    have BP := hide (blk_keep U4.out.1 h4)
    have BQ := hide (blk_keep U4.out.2.1 h4)
    have BR1 := hide (blk_keep U4.out.2.2.1 h4)
    have BR2 := hide (blk_keep U4.out.2.2.2.1 h4)
    have B4 := hide (bt U4.out.2.2.2.2 h4)
    clear h4 U4 ME
    obtain ⟨x0, x1, x2, x3, x4⟩ := cells5 BP.out
    obtain ⟨y0, y1, y2, y3, y4⟩ := cells5 BQ.out
    have BX1 := hide (setRow_heap w4 (w.heap.size + 2) _ #[.int .i64 0, .int .i64 0, .slice none 0 0, .slice none 0 0, .int .i64 0] _ _ BR1.out)
    have BX2 := hide (row_far (W := w4) (g := w.heap.size + 2) #[.int .i64 0, .int .i64 0, .slice none 0 0, .slice none 0 0, .int .i64 0] BR2.out (by omega))
    have BY1 := hide (row_far (g := w.heap.size + 3) #[.int .i64 0, .int .i64 0, .slice none 0 0, .slice none 0 0, .int .i64 0] BX1.out (by omega))
    have BY2 := hide (setRow_heap _ (w.heap.size + 3) _ #[.int .i64 0, .int .i64 0, .slice none 0 0, .slice none 0 0, .int .i64 0] _ _ BX2.out)
    go_wp2_with (first | (refine wpList_store_row rfl 25 _ _ rfl (w.heap.size + 2) _ rfl rfl 25 _ BR1.out sizePage rfl (by simp [Value.oneCell']) ?_) | (refine wpList_store_row rfl 25 _ _ rfl (w.heap.size + 3) _ rfl rfl 25 _ BX2.out sizePage rfl (by simp [Value.oneCell']) ?_) | fail)
    refine bodyPost_ret (v := .tuple #[.agg _, .agg _, _, _]) (results_cells Try.results10 _ _ (w.heap.size + 2) (w.heap.size + 3) 25 25 _ _ (0, 0) (0, 0) _ rfl BY1.out rfl BY2.out Try.underlying25 rfl sizePage sizePage) rfl ?_
    rw [ZE.out]
    exact ⟨Pv.zero, Pv.zero, none, 0, rfl, Pi.zero _, Pi.zero _, Bs.nil _, rfl, rfl, below_row _ (below_row _ B4.out (by omega)) (by omega)⟩
end Go.Proofs.Ytmfelkncomfipaa
