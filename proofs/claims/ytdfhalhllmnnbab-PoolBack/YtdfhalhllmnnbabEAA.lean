import Derived.Test.YtdfhalhllmnnbabEY
namespace Go.Proofs.Ytdfhalhllmnnbab
set_option linter.unusedVariables false
open Go.RowKit

/-! ### PoolBack -/
theorem Po.counts_len (P : Po) : P.counts.length = P.pg.length := by unfold Po.counts; rw [List.length_map]
theorem count_at {P : Po} {n : Nat} (h1 : 1 ≤ n) (h2 : n ≤ P.pg.length) : P.count (n : Int) = (P.at n).1 := by
  unfold Po.count Po.at
  rw [if_pos (Po.has_iff.2 ⟨by omega, by omega⟩), show ((n : Int) - 1).toNat = n - 1 by omega]
theorem inc_dec {P : Po} (h : P.Ok) {z : Int} (h0 : P.count z ≠ 0) (h1 : P.count z ≠ P.rf) : (P.inc z).1 = 0 ∧ ((P.inc z).2.dec z).1.1 = P.count z ∧ ((P.inc z).2.dec z).1.2 = 0 ∧ ((P.inc z).2.dec z).2.pg = P.pg ∧ ((P.inc z).2.dec z).2.mark = P.mark + 2 ∧ (P.inc z).2.mark = P.mark + 1 := by
  obtain ⟨z1, z2⟩ := Po.count_has h0
  obtain ⟨n, rfl⟩ : ∃ n : Nat, z = (n : Int) := ⟨z.toNat, by omega⟩
  have e : P.inc n = (0, P.act n (P.count n + 1)) := by unfold Po.inc; rw [if_neg h0, if_neg h1, Int.toNat_natCast]
  have hn : n - 1 < P.pg.length := by omega
  have hk := h.count (n : Int)
  have hc : P.count n = (P.at n).1 := count_at (by omega) (by omega)
  generalize P.count (n : Int) = c at *
  have ha : (P.act n (c + 1)).at n = (c + 1, (P.at n).2) := by
    show (P.pg.set (n - 1) _).getD (n - 1) Pg.zero = _
    rw [List.getD_eq_getElem?_getD, List.getElem?_set_self hn]; rfl
  have hl : (P.act n (c + 1)).pg.length = P.pg.length := List.length_set
  have hc2 : (P.act n (c + 1)).count n = c + 1 := by rw [count_at (by omega) (by rw [hl]; omega), ha]
  have e2 : (P.act n (c + 1)).dec n = ((c, 0), (P.act n (c + 1)).act n c) := by
    unfold Po.dec
    rw [hc2, if_neg (by omega), Int.toNat_natCast, show c + 1 - 1 = c by omega]
  rw [e]
  show _ ∧ ((P.act n (c + 1)).dec n).1.1 = c ∧ ((P.act n (c + 1)).dec n).1.2 = 0 ∧ ((P.act n (c + 1)).dec n).2.pg = P.pg ∧ ((P.act n (c + 1)).dec n).2.mark = P.mark + 2 ∧ (P.act n (c + 1)).mark = P.mark + 1
  rw [e2]
  refine ⟨rfl, rfl, rfl, ?_, ?_, Po.act_mark _ _ _⟩
  · show (P.pg.set (n - 1) _).set (n - 1) (c, ((P.act n (c + 1)).at n).2) = P.pg
    rw [ha, hc]
    exact set_at (by omega) (by omega) _
  · show ((P.act n (c + 1)).act n c).mark = _
    rw [Po.act_mark, Po.act_mark]
theorem inc_no {P : Po} {z : Int} (h : P.count z = 0 ∨ P.count z = P.rf) : ((P.inc z).1 = 15 ∨ (P.inc z).1 = 13) ∧ (P.inc z).2 = P := by
  unfold Po.inc
  by_cases h0 : P.count z = 0
  · rw [if_pos h0]; exact ⟨.inl rfl, rfl⟩
  · rw [if_neg h0, if_pos (h.resolve_left h0)]; exact ⟨.inr rfl, rfl⟩
theorem state_pg {P Q : Po} (h : P.pg = Q.pg) (z : Int) : P.state z = Q.state z := by unfold Po.state Po.has; rw [h]
theorem count_pg {P Q : Po} (h : P.pg = Q.pg) (z : Int) : P.count z = Q.count z := by unfold Po.count Po.has; rw [h]
theorem counts_pg {P Q : Po} (h : P.pg = Q.pg) : P.counts = Q.counts := by unfold Po.counts; rw [h]
theorem Np.off {w w1 : World} {b : Nat} {P : Po} {col : Nat → Nat} (h : Np w w1 b P col) {k : Nat} (hk : w1.heap.size ≤ k) : col k = 0 := by
  by_cases e : col k = 0
  · exact e
  · have := h.p.lt k e; omega
set_option maxHeartbeats 8000000 in
set_option maxRecDepth 8000 in
theorem poolBack_any (w : World) (l : Bool) (n r : Int) (a : Option Addr) (cap : Nat) (C : List Int) (hC : Ir w a C) (hN : C.length ≤ 17592186043904) (aF : Option Addr) (cF : Nat) (T : List Ov) (hT : Oq w aF T) (hTl : T.length ≤ 5864062014805) (z : Int) :
    Calls Try.prog 4 #[.agg #[.bool l, .int .i64 n, .int .i64 r, .slice a C.length cap], .slice aF T.length cF, .int .i64 z] w fun e w' => e = .returned (.bool true) ∧ Below w.heap.size w w' := by
  have aw := al w (.cells #[.bool l, .int .i64 n, .int .i64 r, .slice a C.length cap] 24)
  have FX := hide (fixed_any (w.alloc (.cells #[.bool l, .int .i64 n, .int .i64 r, .slice a C.length cap] 24)))
  have bx := World.alloc_heap_new w (.cells #[.bool l, .int .i64 n, .int .i64 r, .slice a C.length cap] 24)
  have BX := hide (show ∀ W, Below (w.alloc (.cells #[.bool l, .int .i64 n, .int .i64 r, .slice a C.length cap] 24)).heap.size (w.alloc (.cells #[.bool l, .int .i64 n, .int .i64 r, .slice a C.length cap] 24)) W → W.cell? ⟨w.heap.size, 0, none⟩ = some (.bool l) ∧ W.cell? ⟨w.heap.size, 1, none⟩ = some (.int .i64 n) ∧ W.cell? ⟨w.heap.size, 2, none⟩ = some (.int .i64 r) ∧ W.cell? ⟨w.heap.size, 3, none⟩ = some (.slice a C.length cap) from fun W hb => by
    have h := (hb.block w.heap.size (Array.getElem?_eq_some_iff.1 bx).1).trans bx
    rw [cell_of_row _ _ _ _ _ _ h, cell_of_row _ _ _ _ _ _ h, cell_of_row _ _ _ _ _ _ h, cell_of_row _ _ _ _ _ _ h]
    exact ⟨rfl, rfl, rfl, rfl⟩)
  have MD := hide fun (W : World) (hb : Below w.heap.size w W) => made_any W l n r a C.length cap C (hC.keep hb) rfl (by omega)
  have HT := hide hT
  have AW := hide aw
  obtain ⟨m, hm⟩ : ∃ m, T.length = m := ⟨_, rfl⟩
  have HM := hide hm
  rw [hm] at hTl ⊢
  generalize C.length = k at *
  clear aw bx hC hT hm
  go_enter Try.func4, Try.ntmps4
  go_wp2_with fail
  generalize w.alloc (.cells #[.bool l, .int .i64 n, .int .i64 r, .slice a k cap] 24) = W0 at *
  refine FX.out.mono ?_
  rintro _ w1 ⟨rfl, hb⟩
  obtain ⟨x0, x1, x2, x3⟩ := BX.out _ hb
  have B1 := hide (bt AW.out hb)
  clear hb FX BX
  go_wp2_with fail
  refine (MD.out _ B1.out).mono ?_
  rintro e w2 (⟨-, rfl, hb2⟩ | ⟨-, b, q, col, cb, lb, rfl, hT2⟩)
  · have B2 := hide (bt B1.out hb2)
    clear hb2 MD x0 x1 x2 x3
    go_wp2
    go_ret
    exact ⟨rfl, B2.out⟩
  have H0 := hide (show Np w w2 b (Po.start r (cnB l n C)) col from ⟨hT2.np.p, bt B1.out hT2.np.b, fun k hk => by have := hT2.np.n k hk; have := B1.out.size; omega⟩)
  clear hT2 MD x0 x1 x2 x3
  obtain ⟨P0, hP0⟩ : ∃ P0, Po.start r (cnB l n C) = P0 := ⟨_, rfl⟩
  have M0 : P0.mark = 0 := by rw [← hP0]; rfl
  rw [hP0] at H0
  clear hP0
  go_wp2_with fail
  go_loopw [10] (fun i wr => ∃ (j : Nat) (c' : Nat → Nat), j ≤ m ∧ i = .int .i64 (j : Int) ∧ Np w wr b (P0.play (T.take j)) c') (fun i _ => m - (intOf i).toNat)
  case atStart => exact ⟨0, col, Nat.zero_le _, rfl, H0.out⟩
  case round =>
    clear H0
    obtain ⟨j, c', hj, rfl, hNp⟩ := hrel
    have H := hide hNp
    clear hNp
    by_cases hlt : j < m
    · have hjl : j < T.length := by rw [HM.out]; exact hlt
      obtain ⟨b1, o1, rfl, t0, t1, t2⟩ := (HT.out.keep H.out.b).at hjl
      have hmk := P0.play_mark (T.take j)
      rw [List.length_take, M0] at hmk
      have AC := hide (acted_any wr b _ c' H.out.p (T.getD j Ov.zero) (by omega))
      rw [← Po.play_snoc hjl] at AC
      have hji : (j : Int) < (m : Int) := by omega
      obtain ⟨ov, hov⟩ : ∃ ov, T.getD j Ov.zero = ov := ⟨_, rfl⟩
      rw [hov] at t0 t1 t2 AC
      obtain ⟨o0, o2, o3⟩ := ov
      simp only at t0 t1 t2 AC
      clear hov hmk
      go_wp2_with fail
      refine AC.out.mono ?_
      rintro _ w3 ⟨rfl, c3, h3, f3⟩
      have H3 := hide (H.out.step h3 f3)
      clear h3 f3 AC t0 t1 t2
      go_wp2
      go_roundw
      case rel => exact ⟨j + 1, c3, by omega, by go_num, H3.out⟩
      case measure => simp [intOf]; omega
    · obtain rfl : j = m := by omega
      have hmk := P0.play_mark (T.take j)
      rw [List.length_take, M0] at hmk
      have OK := hide H.out.p.ok
      obtain ⟨P, hP⟩ : ∃ P, P0.play (T.take j) = P := ⟨_, rfl⟩
      rw [hP] at H hmk OK
      clear hP
      have CN := hide (Counts_any wr b P c' H.out.p)
      go_wp2_with fail
      refine CN.out.mono ?_
      rintro _ w3 ⟨a3, d3, rfl, hI⟩
      have R3 := hide hI.r
      have n3 : ∀ x, a3 = some x → wr.heap.size ≤ x.block := fun x hx => by
        rcases hI.n x hx with ⟨y, hy, _⟩ | h2
        · cases hy
        · exact h2
      have O3 := hide (show ∀ x, a3 = some x → c' x.block = 0 from fun x hx => H.out.off (n3 x hx))
      have H3 := hide (H.out.keep hI.b)
      clear hI n3 CN
      have ST := hide (State_pl w3 b P c' H3.out.p z)
      go_wp2_with fail
      refine ST.out.mono ?_
      rintro _ w4 ⟨rfl, hb⟩
      have H4 := hide (H3.out.keep hb)
      have R4 := hide (R3.out.keep hb)
      clear hb ST H3 R3
      have MK := hide (Mark_pl w4 b P c' H4.out.p (by omega))
      go_wp2_with fail
      refine MK.out.mono ?_
      rintro _ w5 ⟨rfl, hb⟩
      have H5 := hide (H4.out.keep hb)
      have R5 := hide (R4.out.keep hb)
      clear hb MK H4 R4
      have IN := hide (Inc_any w5 b P c' H5.out.p z (by have := P.ac_mark; omega))
      have lenC : P.counts.length ≤ 65536 := by rw [Po.counts_len]; exact OK.out.l2
      obtain ⟨nc, hnc⟩ : ∃ nc, P.counts.length = nc := ⟨_, rfl⟩
      have NC := hide hnc
      rw [hnc] at lenC
      clear hnc
      by_cases hz : P.count z = 0 ∨ P.count z = P.rf
      · obtain ⟨he, hP2⟩ := inc_no hz
        rw [hP2] at IN
        obtain ⟨er, her⟩ : ∃ er, (P.inc z).1 = er := ⟨_, rfl⟩
        rw [her] at he IN
        have ne0 : (er != 0) = true := by rcases he with rfl | rfl <;> rfl
        have ne1 : (er == 0) = false := by rcases he with rfl | rfl <;> rfl
        have ne2 : ¬ er = 0 := by rcases he with rfl | rfl <;> decide
        clear her hP2 he
        go_wp2_with fail
        refine IN.out.mono ?_
        rintro _ w6 ⟨rfl, c6, h6, f6⟩
        have R6 := hide (R5.out.but f6.b (fun x hx h => h (O3.out x hx)))
        have H6 := hide (H5.out.step h6 f6)
        clear h6 f6 IN H5 R5
        have MK := hide (Mark_pl w6 b P c6 H6.out.p (by omega))
        go_wp2_with fail
        refine MK.out.mono ?_
        rintro _ w7 ⟨rfl, hb⟩
        have H7 := hide (H6.out.keep hb)
        have R7 := hide (R6.out.keep hb)
        clear hb MK H6 R6
        have CN := hide (Counts_any w7 b P c6 H7.out.p)
        go_wp2_with fail
        refine CN.out.mono ?_
        rintro _ w8 ⟨a8, d8, rfl, hI⟩
        have I8 := hide hI.r.ir
        have H8 := hide (H7.out.keep hI.b)
        have R8 := hide (R7.out.keep hI.b)
        clear hI CN H7 R7
        have EQ := hide (EqInts_same w8 a8 a3 nc nc d8 d3 P.counts I8.out R8.out.ir NC.out.symm NC.out.symm (by rw [NC.out]; omega))
        rw [NC.out]
        go_wp2_with fail
        refine EQ.out.mono ?_
        rintro _ w9 ⟨rfl, hb⟩
        have H9 := hide (H8.out.keep hb)
        clear hb EQ H8 R8 I8
        have CO := hide (Count_pl w9 b P c6 H9.out.p z)
        have CR := hide (Refs_pl w9 b P c6 H9.out.p)
        obtain ⟨cz, hcz⟩ : ∃ cz, P.count z = cz := ⟨_, rfl⟩
        rw [hcz] at CO hz
        clear hcz
        go_wp2_with fail
        refine CO.out.mono ?_
        rintro _ wq ⟨rfl, hwq⟩
        obtain rfl := hwq.symm
        by_cases h0 : cz = 0
        · subst h0
          go_wp2
          go_ret
          exact ⟨rfl, H9.out.b⟩
        · have hrf : cz = P.rf := hz.resolve_left h0
          have e0 : (cz == 0) = false := by simp [h0]
          have e1 : (cz == P.rf) = true := by simp [hrf]
          go_wp2_with fail
          refine CO.out.mono ?_
          rintro _ wq ⟨rfl, hwq⟩
          obtain rfl := hwq.symm
          go_wp2_with fail
          refine CR.out.mono ?_
          rintro _ wq ⟨rfl, hwq⟩
          obtain rfl := hwq.symm
          go_wp2
          go_ret
          exact ⟨rfl, H9.out.b⟩
      · obtain ⟨i1, i2, i3, i4, i5, i6⟩ := inc_dec OK.out (fun h => hz (.inl h)) (fun h => hz (.inr h))
        rw [i1] at IN
        have hs2 := state_pg i4 z
        have hc2 := count_pg i4 z
        have hl2 := counts_pg i4
        obtain ⟨cz, hcz⟩ : ∃ cz, P.count z = cz := ⟨_, rfl⟩
        obtain ⟨sz, hsz⟩ : ∃ sz, P.state z = sz := ⟨_, rfl⟩
        obtain ⟨mk, hmkk⟩ : ∃ mk, P.mark = mk := ⟨_, rfl⟩
        have DC := hide fun (W : World) (c : Nat → Nat) (h : Pl W b (P.inc z).2 c) => Dec_any W b (P.inc z).2 c h z (by have := (P.inc z).2.ac_mark; omega)
        rw [i2, i3] at DC
        rw [hcz] at DC hc2
        rw [hsz] at hs2
        rw [hmkk] at i5 hmk
        rw [hsz, hmkk]
        generalize (P.inc z).2 = P1 at *
        generalize (P1.dec z).2 = P2 at *
        clear i1 i2 i3 i4 i6 hz hcz hsz hmkk
        go_wp2_with fail
        refine IN.out.mono ?_
        rintro _ w6 ⟨rfl, c6, h6, f6⟩
        have R6 := hide (R5.out.but f6.b (fun x hx h => h (O3.out x hx)))
        have L6 := hide (show ∀ x, a3 = some x → x.block < w5.heap.size ∧ c6 x.block = 0 from fun x hx => ⟨R5.out.lt hx, (f6.c _ (R5.out.lt hx)).trans (O3.out x hx)⟩)
        have H6 := hide (H5.out.step h6 f6)
        clear h6 f6 IN H5 R5
        go_wp2_with fail
        refine (DC.out _ _ H6.out.p).mono ?_
        rintro _ w7 ⟨rfl, c7, h7, f7⟩
        have R7 := hide (R6.out.but f7.b (fun x hx h => h (L6.out x hx).2))
        have H7 := hide (H6.out.step h7 f7)
        clear h7 f7 DC H6 R6 L6
        have CO := hide (Count_pl w7 b P2 c7 H7.out.p z)
        rw [hc2] at CO
        go_wp2_with fail
        refine CO.out.mono ?_
        rintro _ wq ⟨rfl, hwq⟩
        obtain rfl := hwq.symm
        have MK := hide (Mark_pl w7 b P2 c7 H7.out.p (by omega))
        rw [i5] at MK
        have e0 : (cz == cz) = true := by simp
        have e1 : IntKind.i64.wrap ((mk : Int) + 2) = ((mk + 2 : Nat) : Int) := by rw [wrapI (by omega) (by omega)]; omega
        have e2 : wrap64 ((mk : Int) + 2) = (mk : Int) + 2 := by unfold wrap64; omega
        go_wp2_with fail
        refine MK.out.mono ?_
        rintro _ w8 ⟨rfl, hb⟩
        have H8 := hide (H7.out.keep hb)
        have R8 := hide (R7.out.keep hb)
        clear hb MK H7 R7 CO
        have ST := hide (State_pl w8 b P2 c7 H8.out.p z)
        rw [hs2] at ST
        have e3 : ((mk : Int) + 2 == (mk : Int) + 2) = true := by simp
        go_wp2_with fail
        refine ST.out.mono ?_
        rintro _ w9 ⟨rfl, hb⟩
        have H9 := hide (H8.out.keep hb)
        have R9 := hide (R8.out.keep hb)
        clear hb ST H8 R8
        have CN := hide (Counts_any w9 b P2 c7 H9.out.p)
        rw [hl2] at CN
        have e4 : ((sz : Int) == (sz : Int)) = true := by simp
        go_wp2_with fail
        refine CN.out.mono ?_
        rintro _ w10 ⟨a8, d8, rfl, hI⟩
        have I8 := hide hI.r.ir
        have H10 := hide (H9.out.keep hI.b)
        have R10 := hide (R9.out.keep hI.b)
        clear hI CN H9 R9
        have EQ := hide (EqInts_same w10 a8 a3 nc nc d8 d3 P.counts I8.out R10.out.ir NC.out.symm NC.out.symm (by rw [NC.out]; omega))
        rw [NC.out]
        go_wp2_with fail
        refine EQ.out.mono ?_
        rintro _ w11 ⟨rfl, hb⟩
        have H11 := hide (H10.out.keep hb)
        clear hb EQ
        go_wp2
        go_ret
        exact ⟨rfl, H11.out.b⟩
end Go.Proofs.Ytdfhalhllmnnbab
