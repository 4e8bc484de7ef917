import Derived.Test.YtmfelkncomfipaaDYC
namespace Go.Proofs.Ytmfelkncomfipaa
set_option linter.unusedVariables false
set_option linter.unusedSimpArgs false
open Go.RowKit
def Iv.rq (x : Iv) (a : Option Addr) (c : Nat) (k : List Nat) : Iv := ⟨a, c, k, x.aV, x.cV, x.val, x.child, x.size⟩
def rxl (kind : Int) (R : List Iv) (a : Option Addr) (c : Nat) (s : List Nat) : List Iv := (if kind = 2 then (R.getD 0 Iv.zero).rq a c s else R.getD 0 Iv.zero) :: R.drop 1
theorem rxl_len {kind : Int} {R : List Iv} {a : Option Addr} {c : Nat} {s : List Nat} (h : 1 ≤ R.length) : (rxl kind R a c s).length = R.length := by
  simp only [rxl, List.length_cons, List.length_drop]; omega
theorem rxl_at0 {kind : Int} {R : List Iv} {a : Option Addr} {c : Nat} {s : List Nat} (h : kind = 2) : ((rxl kind R a c s).getD 0 Iv.zero).it = (R.getD 0 Iv.zero).it.keyed s := by
  simp only [rxl, List.getD_cons_zero, if_pos h]
  rfl
theorem rxl_at {kind : Int} {R : List Iv} {a : Option Addr} {c : Nat} {s : List Nat} {j : Nat} (h : ¬ (j = 0 ∧ kind = 2)) : (rxl kind R a c s).getD j Iv.zero = R.getD j Iv.zero := by
  cases j with
  | zero => simp only [rxl, List.getD_cons_zero, if_neg (fun e => h ⟨rfl, e⟩)]
  | succ j =>
    simp only [rxl, List.getD_cons_succ]
    simp [List.getD_eq_getElem?_getD, Nat.add_comm]
theorem rxl_jnd {l r : Pv} {a : Option Addr} {c : Nat} {s : List Nat} : (l.items ++ rxl r.kind r.items a c s).map Iv.it = jnd l.pg r.pg s := by
  unfold jnd rxl
  rw [Pv.at, List.map_append, List.map_cons]
  show _ = l.items.map Iv.it ++ (if r.kind = 2 then _ else _) :: (r.items.map Iv.it).drop 1
  rw [List.map_drop]
  by_cases h : r.kind = 2
  · rw [if_pos h, if_pos h]; rfl
  · rw [if_neg h, if_neg h]
theorem take_nx2 {L : List Iv} {k : Nat} (h : k < L.length) : L.take (k + 1) = L.take k ++ [L.getD k Iv.zero] := by
  rw [List.take_succ_eq_append_getElem h]; simp [h]
theorem Io.rekey {W W0 W1 : World} {q : Iv} {cs : Array Value} {a6 : Option Addr} {c6 : Nat} {s : List Nat} (hq : Io W W0 q) (hO : Own (W0.alloc (.cells cs 40)) W1 a6 c6 s) (h8 : B8 s) (u : Value) : Io W (W1.setCell ⟨W0.heap.size, 0, none⟩ u) (q.rq a6 c6 s) := by
  have hw := hq.k.b.size
  have A0 := al W0 (.cells cs 40)
  have X0 := heap_alloc_new W0 (.cells cs 40)
  have X1 := blk_keep X0 hO.b
  have hB := But.cell1 W1 W0.heap.size 0 u
  have b1 : Below W.heap.size W W1 := bt hq.k.b (bt A0 hO.b)
  have b2 : Below W.heap.size W (W1.setCell ⟨W0.heap.size, 0, none⟩ u) := ((But.ofBelow (S := fun k => k = W0.heap.size) b1).trans hB (fun _ _ e => e)).below (fun k hk e => by omega)
  have sz : W0.heap.size < (W0.alloc (.cells cs 40)).heap.size := (Array.getElem?_eq_some_iff.1 X0).1
  refine ⟨⟨hO.r.but hB (fun x hx e => hO.r.nty (show Bx W1 40 _ _ from X1) (by decide) hx e), fun x hx => .inr (by have := new_at hO.n hx; omega), b2⟩, ⟨((hq.v.r.keep A0).keep hO.b).but hB (fun x hx e => ((hq.v.r.keep A0).keep hO.b).nty (show Bx W1 40 _ _ from X1) (by decide) hx e), hq.v.n, b2⟩, fun x y hx hy e => ?_, h8, hq.v8⟩
  have l1 := new_at hO.n hx
  have l2 : y.block < W0.heap.size := hq.v.r.lt hy
  omega
set_option maxHeartbeats 16000000 in
set_option maxRecDepth 8000 in
theorem lall_any (w : World) (l r : Pv) (aS : Option Addr) (cs : Nat) (s : List Nat) (hl : Pi w l) (hr : Pi w r) (hB : Bs w aS s) (sl : Sml l.items) (sr : Sml r.items) (hs : s.length ≤ 140737488355264) (n1 : l.items.length ≤ 100) (n2 : r.items.length ≤ 100) (h1 : 1 ≤ r.items.length) :
    Calls Try.prog 50 #[l.vl, r.vl, .slice aS s.length cs] w fun e w' => ∃ (a : Option Addr) (n c : Nat) (M : List Iv), e = .returned (.slice a n c) ∧ n = M.length ∧ n = l.items.length + r.items.length ∧ Js w' a M ∧ M.map Iv.it = jnd l.pg r.pg s ∧ Below w.heap.size w w' := by
  have JL := hide hl.it
  have JR := hide hr.it
  have SL := hide sl
  have SR := hide sr
  have CB := hide fun (W : World) (hb : Below w.heap.size w W) => CopyBytes_at W aS s.length cs s (hB.keep hb) rfl hs
  have S8 := hide hB.1
  have JN := hide (rxl_jnd (l := l) (r := r) (a := aS) (c := cs) (s := s))
  clear hl hr hB hs sl sr
  obtain ⟨kind, level, aI, cI, L, aD, cD, data, next⟩ := l
  obtain ⟨kind2, level2, aI2, cI2, R, aD2, cD2, data2, next2⟩ := r
  unfold Pv.vl
  simp only [Pv.cs] at JL JR SL SR JN n1 n2 h1 ⊢
  have RL := hide (rxl_len (kind := kind2) (a := aS) (c := cs) (s := s) h1)
  obtain ⟨m, hm⟩ : ∃ m, L.length = m := ⟨_, rfl⟩
  obtain ⟨m2, hm2⟩ : ∃ m2, R.length = m2 := ⟨_, rfl⟩
  have HM := hide hm
  have HM2 := hide hm2
  obtain ⟨J, hJ⟩ : ∃ J, jnd (Pv.pg ⟨kind, level, aI, cI, L, aD, cD, data, next⟩) (Pv.pg ⟨kind2, level2, aI2, cI2, R, aD2, cD2, data2, next2⟩) s = J := ⟨_, rfl⟩
  rw [hJ] at JN ⊢
  have RX0 := hide fun (h : kind2 = 2) => rxl_at0 (R := R) (a := aS) (c := cs) (s := s) h
  have RXJ := hide fun (j : Nat) (h : ¬ (j = 0 ∧ kind2 = 2)) => rxl_at (R := R) (a := aS) (c := cs) (s := s) h
  generalize hrx : rxl kind2 R aS cs s = RX at *
  simp only [hm, hm2] at n1 n2 h1 RL ⊢
  clear hm hm2 hJ hrx
  have U := hide (two_blocks w (.cells #[.int .i64 kind, .int .i64 level, .slice aI m cI, .slice aD data.length cD, .int .i64 next] 25) (.cells #[.int .i64 kind2, .int .i64 level2, .slice aI2 m2 cI2, .slice aD2 data2.length cD2, .int .i64 next2] 25) (Below.refl _ _))
  go_enter Try.func50, Try.ntmps50
  go_wp2_with fail
  have BP := hide U.out.1
  have BQ := hide U.out.2.1
  have B2 := hide U.out.2.2.1
  clear U
  generalize ((w.alloc (.cells #[.int .i64 kind, .int .i64 level, .slice aI m cI, .slice aD data.length cD, .int .i64 next] 25)).alloc (.cells #[.int .i64 kind2, .int .i64 level2, .slice aI2 m2 cI2, .slice aD2 data2.length cD2, .int .i64 next2] 25)) = w2 at *
  go_loopw [7, 8] (fun o i wx => ∃ (k : Nat) (ak : Option Addr) (ck : Nat) (M : List Iv), k ≤ m ∧ i = .int .i64 k ∧ o = .slice ak k ck ∧ Ck w2 wx ak ck M (L.take k)) (fun _ i _ => m - (intOf i).toNat)
  case atStart => exact ⟨0, none, 0, [], Nat.zero_le _, rfl, rfl, by rw [List.take_zero]; exact Ck.nil _ (Below.refl _ _)⟩
  case round =>
    obtain ⟨k, ak, ck, M, hk, rfl, rfl, hO⟩ := hrel
    have O0 := hide hO
    have HMk : Hid (k = M.length) := by show _ = _; rw [hO.len, List.length_take, HM.out]; omega
    obtain ⟨x0, x1, x2, x3, x4⟩ := cells5 (blk_keep BP.out hO.j.b)
    clear hO
    by_cases hlt : k < m
    · have hlti : (k : Int) < (m : Int) := by omega
      have hkL : k < L.length := by rw [HM.out]; exact hlt
      have T3 := hide (take_nx2 (L := L) hkL)
      have BW := hide (bt B2.out O0.out.j.b)
      obtain ⟨bI, off, rfl, hr⟩ := (JL.out.keep BW.out).at hkL
      obtain ⟨k0, k1, k2, k3⟩ := range4 hr
      have I0 := (JL.out.1 _ (getD_memR hkL)).keep BW.out
      have C1 := hide (CopyItem_any wr (L.getD k Iv.zero) I0 (SL.out _ (getD_memR hkL)).1 (SL.out _ (getD_memR hkL)).2)
      have N1 := hide (And.intro I0.nc I0.ns)
      have hml : M.length + 1 ≤ 2199023255520 := by rw [← HMk.out]; omega
      clear hr I0
      generalize L.getD k Iv.zero = v at *
      have INQ := hide fun (q : Iv) (h : q.it = v.it) => it_n h N1.out
      obtain ⟨aK, cK, key, aV, cV, val, child, size⟩ := v
      simp only [Iv.vl, Iv.cs] at C1 k0 k1 k2 k3
      go_wp2_with fail
      refine C1.out.mono ?_
      rintro e w7 ⟨q, rfl, hq, he⟩
      have Q1 := hide hq
      have Q2 := hide he
      have Q3 := hide (INQ.out q he)
      have J2 := hide ((O0.out.j.keep hq.k.b).r.keep (al w7 (.cells q.cs 40)))
      have BX := hide (box_item w7 q w7.heap.size rfl)
      clear hq he C1 k0 k1 k2 k3 x0 x1 x2 x3 x4
      obtain ⟨qK, dK, kq, qV, dV, vq, cq, sq⟩ := q
      simp only [Iv.cs] at J2 BX ⊢
      go_wp2_with (at_builtin; refine wpList_apJ rfl _ _ rfl ak k ck M rfl HMk.out J2.out ⟨_, 0, none⟩ 1 ⟨qK, dK, kq, qV, dV, vq, cq, sq⟩ rfl BX.out hml ?_)
      intro g2 c2 w8 hJ hN hg
      have O5 := hide (O0.out.push Q1.out Q2.out Q3.out (al _ _) hJ hN hg)
      rw [← T3.out] at O5
      clear hJ hN hg
      go_wp2
      go_roundw
      case rel => exact ⟨k + 1, _, c2, _, by omega, by first | (go_num; done) | exact congrArg (Value.int IntKind.i64) (by omega), rfl, O5.out⟩
      case measure => first | exact meas_up _ _ _ rfl hlt | (simp [intOf]; omega)
    · obtain rfl : k = m := by omega
      have OL : Hid (Ck w2 wr ak ck M L) := by have := O0.out; rw [← HM.out, List.take_length] at this; exact this
      clear O0 HMk
      go_wp2_with fail
      clear x0 x1 x2 x3 x4
      go_loopw [7, 9] (fun o i wx => ∃ (j : Nat) (aj : Option Addr) (cj : Nat) (N : List Iv), j ≤ m2 ∧ i = .int .i64 j ∧ o = .slice aj (k + j) cj ∧ Ck w2 wx aj cj N (L ++ RX.take j)) (fun _ i _ => m2 - (intOf i).toNat)
      case atStart => exact ⟨0, ak, ck, M, Nat.zero_le _, rfl, rfl, by rw [List.take_zero, List.append_nil]; exact OL.out⟩
      case round =>
        clear OL
        obtain ⟨j, aj, cj, N, hj, rfl, rfl, hO⟩ := hrel
        have O0 := hide hO
        have HNj : Hid (k + j = N.length) := by show _ = _; rw [hO.len, List.length_append, List.length_take, HM.out, RL.out]; omega
        obtain ⟨y0, y1, y2, y3, y4⟩ := cells5 (blk_keep BQ.out hO.j.b)
        have BQr := hide (blk_keep BQ.out hO.j.b)
        clear hO
        by_cases hlt : j < m2
        · have hlti : (j : Int) < (m2 : Int) := by omega
          have hjR : j < R.length := by rw [HM2.out]; exact hlt
          have hjX : j < RX.length := by rw [RL.out]; exact hlt
          have T3 : Hid (L ++ RX.take (j + 1) = (L ++ RX.take j) ++ [RX.getD j Iv.zero]) := by show _ = _; rw [take_nx2 (L := RX) hjX, List.append_assoc]
          have BW := hide (bt B2.out O0.out.j.b)
          obtain ⟨bI, off, rfl, hr⟩ := (JR.out.keep BW.out).at hjR
          obtain ⟨k0, k1, k2, k3⟩ := range4 hr
          have I0 := (JR.out.1 _ (getD_memR hjR)).keep BW.out
          have C1 := hide (CopyItem_any wr (R.getD j Iv.zero) I0 (SR.out _ (getD_memR hjR)).1 (SR.out _ (getD_memR hjR)).2)
          have N1 := hide (And.intro I0.nc I0.ns)
          have hml : N.length + 1 ≤ 2199023255520 := by rw [← HNj.out]; omega
          clear hr I0
          by_cases hz : j = 0 ∧ kind2 = 2
          · obtain ⟨rfl, hkk⟩ := hz
            have hkb : (kind2 == 2) = true := by simpa using hkk
            have RE := hide (RX0.out hkk)
            clear hkk
            generalize R.getD 0 Iv.zero = v at *
            have INQ := hide fun (q : Iv) (h : q.it = v.it) => it_n h N1.out
            obtain ⟨aK, cK, key, aV, cV, val, child, size⟩ := v
            simp only [Iv.vl, Iv.cs, Nat.zero_mul, Nat.add_zero] at C1 k0 k1 k2 k3
            go_wp2_with fail
            refine C1.out.mono ?_
            rintro e w7 ⟨q, rfl, hq, he⟩
            have Q3 := hide (INQ.out q he)
            have Q2 : Hid (∀ (a : Option Addr) (c : Nat), (q.rq a c s).it = (RX.getD 0 Iv.zero).it) := fun a c => by rw [RE.out, ← he]; rfl
            have A7 := hide (al w7 (.cells q.cs 40))
            have X7 := hide (heap_alloc_new w7 (.cells q.cs 40))
            have RK := hide fun (W1 : World) (a6 : Option Addr) (c6 : Nat) (hO : Own (w7.alloc (.cells q.cs 40)) W1 a6 c6 s) => hq.rekey hO S8.out (.slice a6 s.length c6)
            have BQ7 := hide (blk_keep BQr.out (bt hq.k.b A7.out))
            have B7 := hide (bt BW.out (bt hq.k.b A7.out))
            have J7 := hide (O0.out.j.keep (bt hq.k.b A7.out))
            clear hq he C1 k0 k1 k2 k3 y0 y1 y2 y3 y4
            obtain ⟨qK, dK, kq, qV, dV, vq, cq, sq⟩ := q
            simp only [Iv.cs] at A7 X7 RK BQ7 B7 J7
            obtain ⟨y0, y1, y2, y3, y4⟩ := cells5 BQ7.out
            go_wp2_with fail
            refine (CB.out _ B7.out).mono ?_
            rintro _ w8 ⟨a6, c6, rfl, hO⟩
            have IO8 := hide (RK.out _ _ _ hO)
            have X8 := hide (blk_keep X7.out hO.b)
            have X9 := hide (heap_setCell_same w8 w7.heap.size 0 _ 40 (.slice a6 s.length c6) X8.out)
            obtain ⟨x0, x1, x2, x3⟩ := cells4 X8.out
            have f0 := frz X8.out 0
            clear hO y0 y1 y2 y3 y4
            go_upto_region 12 with fail
            clear x0 x1 x2 x3 f0
            have JN9 := hide ((O0.out.j.keep IO8.out.k.b).r)
            generalize w8.setCell ⟨w7.heap.size, 0, none⟩ (.slice a6 s.length c6) = w9 at *
            have J2 := hide (JN9.out.keep (al w9 (.cells (Iv.rq ⟨qK, dK, kq, qV, dV, vq, cq, sq⟩ a6 c6 s).cs 40)))
            have BX := hide (box_item w9 (Iv.rq ⟨qK, dK, kq, qV, dV, vq, cq, sq⟩ a6 c6 s) w9.heap.size rfl)
            simp only [Iv.rq, Iv.cs] at J2 BX
            obtain ⟨x0, x1, x2, x3⟩ := cells4 X9.out
            go_wp2_with (at_builtin; refine wpList_apJ rfl _ _ rfl aj (k + 0) cj N rfl HNj.out J2.out ⟨_, 0, none⟩ 1 ⟨a6, c6, s, qV, dV, vq, cq, sq⟩ rfl BX.out hml ?_)
            intro g2 c2 wz hJ hN hg
            have O5 := hide (O0.out.push IO8.out (Q2.out a6 c6) Q3.out (al _ _) hJ hN hg)
            rw [← T3.out] at O5
            clear hJ hN hg x0 x1 x2 x3
            go_wp2
            go_roundw
            case rel => exact ⟨1, _, c2, _, by omega, by go_num, by first | rfl | simp, O5.out⟩
            case measure => simp [intOf]; omega
          · have RE := hide (RXJ.out j hz)
            have hcb : (decide ((j : Int) = 0) && (kind2 == 2)) = false := by
              by_cases h0 : j = 0
              · have : kind2 ≠ 2 := fun h => hz ⟨h0, h⟩
                simp [this]
              · simp [h0]
            generalize R.getD j Iv.zero = v at *
            have INQ := hide fun (q : Iv) (h : q.it = v.it) => it_n h N1.out
            obtain ⟨aK, cK, key, aV, cV, val, child, size⟩ := v
            simp only [Iv.vl, Iv.cs] at C1 k0 k1 k2 k3
            go_wp2_with fail
            refine C1.out.mono ?_
            rintro e w7 ⟨q, rfl, hq, he⟩
            have Q1 := hide hq
            have Q2 : Hid (q.it = (RX.getD j Iv.zero).it) := by show _ = _; rw [RE.out]; exact he
            have Q3 := hide (INQ.out q he)
            have A7 := hide (al w7 (.cells q.cs 40))
            have X7 := hide (heap_alloc_new w7 (.cells q.cs 40))
            have BQ7 := hide (blk_keep BQr.out (bt hq.k.b A7.out))
            have J7 := hide (O0.out.j.keep (bt hq.k.b A7.out))
            have PU := hide fun (g2 c2 : Nat) (W1 W2 : World) (hb : Below w7.heap.size w7 W1) (hJ : Jw W2 (some ⟨g2, 0, none⟩) c2 (N ++ [q])) (hN : New W1 aj (some ⟨g2, 0, none⟩)) (hg : W1.grownBy W2 (aj.map Addr.block)) => O0.out.push hq Q2.out Q3.out hb hJ hN hg
            have BX := hide fun (W : World) => box_item W q W.heap.size rfl
            clear hq he C1 k0 k1 k2 k3 y0 y1 y2 y3 y4
            obtain ⟨qK, dK, kq, qV, dV, vq, cq, sq⟩ := q
            simp only [Iv.cs] at A7 X7 BQ7 J7 PU BX
            obtain ⟨y0, y1, y2, y3, y4⟩ := cells5 BQ7.out
            obtain ⟨x0, x1, x2, x3⟩ := cells4 X7.out
            go_upto_region 10 with fail
            generalize hwA : w7.alloc (.cells #[.slice qK kq.length dK, .slice qV vq.length dV, .int .i64 cq, .int .i64 sq] 40) = wA at *
            have J2 := hide (J7.out.r.keep (al wA (.cells #[.slice qK kq.length dK, .slice qV vq.length dV, .int .i64 cq, .int .i64 sq] 40)))
            have BXA := hide (BX.out wA)
            have PUA := hide fun (g2 c2 : Nat) (W2 : World) (hJ : Jw W2 (some ⟨g2, 0, none⟩) c2 (N ++ [⟨qK, dK, kq, qV, dV, vq, cq, sq⟩])) (hN : New (wA.alloc (.cells #[.slice qK kq.length dK, .slice qV vq.length dV, .int .i64 cq, .int .i64 sq] 40)) aj (some ⟨g2, 0, none⟩)) (hg : (wA.alloc (.cells #[.slice qK kq.length dK, .slice qV vq.length dV, .int .i64 cq, .int .i64 sq] 40)).grownBy W2 (aj.map Addr.block)) => PU.out g2 c2 _ W2 (bt A7.out (al wA _)) hJ hN hg
            clear hwA PU BX
            go_cut [46] from 27 to 53 (fun v wx => v = .bool false ∧ wx = wA)
            case first =>
              clear PUA BXA J2 J7 O0 T3 CB
              by_cases h0 : j = 0
              · subst h0
                have hkb : (kind2 == 2) = false := by simpa using (fun h => hz ⟨rfl, h⟩ : ¬ kind2 = 2)
                go_wp2_with fail
                go_meet
                case rel => exact ⟨rfl, rfl⟩
              · have hjb : ((j : Int) == 0) = false := by simpa using h0
                go_wp2_with fail
                go_meet
                case rel => exact ⟨rfl, rfl⟩
            case rest =>
              obtain ⟨rfl, hwc⟩ := hcut
              rw [hwc]
              clear hwc y0 y1 y2 y3 y4
              go_wp2_with (at_builtin; refine wpList_apJ rfl _ _ rfl aj (k + j) cj N rfl HNj.out J2.out ⟨_, 0, none⟩ 1 ⟨qK, dK, kq, qV, dV, vq, cq, sq⟩ rfl BXA.out hml ?_)
              intro g2 c2 wz hJ hN hg
              have O5 := hide (PUA.out g2 c2 wz hJ hN hg)
              rw [← T3.out] at O5
              clear hJ hN hg x0 x1 x2 x3
              go_wp2
              go_roundw
              case rel => first | exact ⟨⟨j + 1, _, c2, _, by omega, by first | (go_num; done) | exact congrArg (Value.int IntKind.i64) (by omega), by first | rfl | (rw [Nat.add_assoc]), O5.out⟩, rfl⟩ | exact ⟨j + 1, _, c2, _, by omega, by first | (go_num; done) | exact congrArg (Value.int IntKind.i64) (by omega), by first | rfl | (rw [Nat.add_assoc]), O5.out⟩
              case measure => first | exact meas_up _ _ _ rfl hlt | (simp [intOf]; omega)
        · obtain rfl : j = m2 := by omega
          have OL : Hid (Ck w2 wr aj cj N (L ++ RX)) := by have := O0.out; rw [← RL.out, List.take_length] at this; exact this
          clear O0
          have JS := hide (OL.out.j.r.qs (Fam.ii OL.out.f OL.out.n) (by rw [← HNj.out]; omega))
          have BE := hide (bt B2.out OL.out.j.b)
          have EE := hide (OL.out.e.trans JN.out)
          go_wp2_with fail
          go_ret
          exact ⟨aj, k + j, cj, N, rfl, HNj.out, rfl, JS.out, EE.out, BE.out⟩
end Go.Proofs.Ytmfelkncomfipaa
