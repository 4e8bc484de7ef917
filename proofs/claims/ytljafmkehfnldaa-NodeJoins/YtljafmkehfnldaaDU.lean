import Derived.Test.YtljafmkehfnldaaDH
namespace Go.Proofs.Ytljafmkehfnldaa
set_option linter.unusedVariables false
set_option linter.unusedSimpArgs false
open Go.RowKit

/-! ### the document's Search and Route -/
set_option maxHeartbeats 3200000 in
set_option maxRecDepth 8000 in
theorem rSearch_any (w : World) (p : Pv) (ak : Option Addr) (ck : Nat) (k : List Nat) (hP : Pi w p) (hB : Bs w ak k) :
    Calls Try.prog 12 #[p.vl, .slice ak k.length ck] w fun e w' => e = .returned (.tuple #[.int .i64 ((srch k p.pg.items : Nat) : Int), .bool (hasK k p.pg.items)]) ∧ Below w.heap.size w w' := by
  obtain ⟨kind, level, aI, cI, L, aD, cD, data, next⟩ := p
  have HJ := hide hP.it
  have hL := hP.it.2.1
  have BB := hide hB
  have AT := hide fun (j : Nat) (h1 : j ≤ L.length) (h2 : ∀ i, i < j → (L.getD i Iv.zero).key < k) (h3 : j = L.length ∨ ¬ (L.getD j Iv.zero).key < k) => srch_at k (L.map Iv.it) j (by simpa using h1) (fun i hi => by rw [it_getD]; exact h2 i hi) (h3.imp (fun e => by simpa using e) (fun e => by rw [it_getD]; exact e))
  unfold Pv.vl Pv.pg
  simp only [Pv.cs] at *
  have A0 := hide (al w (.cells #[.int .i64 kind, .int .i64 level, .slice aI L.length cI, .slice aD data.length cD, .int .i64 next] 25))
  have X0 := hide (heap_alloc_new w (.cells #[.int .i64 kind, .int .i64 level, .slice aI L.length cI, .slice aD data.length cD, .int .i64 next] 25))
  obtain ⟨n, hn⟩ : ∃ n, L.length = n := ⟨_, rfl⟩
  have HN := hide hn
  rw [hn] at hL A0 X0 ⊢
  clear hP hB hn
  go_enter Try.func12, Try.ntmps12
  go_wp2
  generalize (w.alloc (.cells #[.int .i64 kind, .int .i64 level, .slice aI n cI, .slice aD data.length cD, .int .i64 next] 25)) = w1 at *
  go_loopw [6] (fun i wr => ∃ j : Nat, j ≤ n ∧ i = .int .i64 (j : Int) ∧ (∀ i, i < j → (L.getD i Iv.zero).key < k) ∧ Below w.heap.size w wr ∧ wr.heap[w.heap.size]? = some (.cells #[.int .i64 kind, .int .i64 level, .slice aI n cI, .slice aD data.length cD, .int .i64 next] 25 (0, 0))) (fun i _ => n - (intOf i).toNat)
  case atStart => exact ⟨0, Nat.zero_le _, rfl, fun i hi => absurd hi (Nat.not_lt_zero _), A0.out, X0.out⟩
  case round =>
    obtain ⟨j, hj, rfl, hU, hb, hx⟩ := hrel
    have UU := hide hU
    have B1 := hide hb
    have X1 := hide hx
    obtain ⟨x0, x1, x2, x3, x4⟩ := cells5 hx
    by_cases hlt : j < n
    · have hjI : (j : Int) < (n : Int) := by omega
      have hjL : j < L.length := by rw [HN.out]; exact hlt
      obtain ⟨bI, off, rfl, hr⟩ := (HJ.out.keep hb).at hjL
      obtain ⟨k0, k1, k2, k3⟩ := range4 hr
      have II := hide ((HJ.out.1 _ (getD_memR hjL)).keep hb)
      have CC := hide (Compare_any wr (L.getD j Iv.zero).aK ak (L.getD j Iv.zero).key.length k.length (L.getD j Iv.zero).cK ck _ k II.out.bk (BB.out.keep hb) rfl rfl)
      have EE := hide fun (W : World) (hb : Below wr.heap.size wr W) => EqBytes_any W (L.getD j Iv.zero).aK ak (L.getD j Iv.zero).key.length k.length (L.getD j Iv.zero).cK ck _ k (II.out.bk.keep hb) ((BB.out.keep B1.out).keep hb) rfl rfl
      have RG := hide fun (W : World) (hb : Below wr.heap.size wr W) => And.intro (range4 (range_below hr hb)).1 (And.intro (cells5 (blk_keep X1.out hb)) (block_lt_of_cell (range4 (range_below hr hb)).1))
      have EK : Hid ((L.map Iv.it).getD j It.zero = (L.getD j Iv.zero).it) := it_getD L j
      clear hU hb hx hr
      by_cases hl : (L.getD j Iv.zero).key < k
      · have U2 : Hid (∀ i, i < j + 1 → (L.getD i Iv.zero).key < k) := fun i hi => by
          by_cases e : i = j
          · rw [e]; exact hl
          · exact UU.out i (by omega)
        rw [cmp_lt hl] at CC
        clear hl II EK EE
        generalize L.getD j Iv.zero = v at *
        obtain ⟨aK, cK, key, aV, cV, val, child, size⟩ := v
        simp only at k0 k1 k2 k3 CC
        go_wp2_with (go_at_call 38; refine CC.out.mono ?_; rintro _ w2 ⟨rfl, b2⟩)
        have B2 := hide (bt B1.out b2)
        have X2 := hide (blk_keep X1.out b2)
        clear b2
        go_roundw
        case rel => exact ⟨j + 1, by omega, by go_num, U2.out, B2.out, X2.out⟩
        case measure => simp [intOf]; omega
      · have SL : Hid (srch k (L.map Iv.it) = j) := AT.out j (by omega) UU.out (.inr hl)
        have HK : Hid (hasK k (L.map Iv.it) = decide ((L.getD j Iv.zero).key = k)) := by
          show _ = _
          unfold hasK
          rw [SL.out, EK.out, List.length_map, decide_eq_true hjL]
          rfl
        obtain ⟨z, hz, hz0⟩ : ∃ z, cmpB (L.getD j Iv.zero).key k = z ∧ decide (z < 0) = false := ⟨_, rfl, decide_eq_false (fun h => hl (cmpB_neg.1 h))⟩
        rw [hz] at CC
        clear hl hz EK AT II
        generalize L.getD j Iv.zero = v at *
        obtain ⟨aK, cK, key, aV, cV, val, child, size⟩ := v
        simp only at k0 k1 k2 k3 CC EE
        go_wp2_with (first | (go_at_call 38; refine CC.out.mono ?_; rintro _ w2 ⟨rfl, b2⟩; have B2 := hide b2; obtain ⟨y0, ⟨y1, y2, y3, y4, y5⟩, y6⟩ := RG.out _ b2; clear b2) | (go_at_call 29; refine (EE.out _ B2.out).mono ?_; rintro _ w3 ⟨rfl, b3⟩; have B3 := hide (bt B1.out (bt B2.out b3)); clear b3))
        refine bodyPost_ret (results_tmp2 Try.results12 _ _ _) rfl ?_
        exact ⟨by rw [SL.out, HK.out]; first | rfl | simp, B3.out⟩
    · obtain rfl : j = n := by omega
      have SL : Hid (srch k (L.map Iv.it) = j) := AT.out j (by rw [HN.out]; exact Nat.le_refl _) UU.out (.inl HN.out.symm)
      have HK : Hid (hasK k (L.map Iv.it) = false) := by
        show _ = _
        unfold hasK
        rw [SL.out, List.length_map, HN.out, decide_eq_false (Nat.lt_irrefl _)]
        rfl
      clear hU hb hx
      go_wp2
      refine bodyPost_ret (results_tmp2 Try.results12 _ _ _) rfl ?_
      exact ⟨by rw [SL.out, HK.out]; rfl, B1.out⟩
set_option maxHeartbeats 3200000 in
set_option maxRecDepth 8000 in
theorem rRoute_any (w : World) (p : Pv) (ak : Option Addr) (ck : Nat) (k : List Nat) (hP : Pi w p) (hB : Bs w ak k) :
    Calls Try.prog 14 #[p.vl, .slice ak k.length ck] w fun e w' => e = .returned (.int .i64 ((rout k p.pg.items : Nat) : Int)) ∧ Below w.heap.size w w' := by
  obtain ⟨kind, level, aI, cI, L, aD, cD, data, next⟩ := p
  have HJ := hide hP.it
  have hL := hP.it.2.1
  have BB := hide hB
  have DE : Hid ((L.map Iv.it).drop 1 = (L.drop 1).map Iv.it) := by show _ = _; rw [List.map_drop]
  have AT := hide fun (j : Nat) (h1 : j ≤ L.length - 1) (h2 : ∀ i, i < j → (L.getD (i + 1) Iv.zero).key ≤ k) (h3 : j = L.length - 1 ∨ ¬ (L.getD (j + 1) Iv.zero).key ≤ k) => (show rout k (L.map Iv.it) = j from by
    have gd : ∀ i, (L.drop 1).getD i Iv.zero = L.getD (i + 1) Iv.zero := fun i => by simp [Nat.add_comm]
    unfold rout
    rw [DE.out]
    exact upto_at k _ j (by simpa using h1) (fun i hi => by rw [it_getD, gd]; exact h2 i hi) (h3.imp (fun e => by simpa using e) (fun e => by rw [it_getD, gd]; exact e)))
  unfold Pv.vl Pv.pg
  simp only [Pv.cs] at *
  have A0 := hide (al w (.cells #[.int .i64 kind, .int .i64 level, .slice aI L.length cI, .slice aD data.length cD, .int .i64 next] 25))
  have X0 := hide (heap_alloc_new w (.cells #[.int .i64 kind, .int .i64 level, .slice aI L.length cI, .slice aD data.length cD, .int .i64 next] 25))
  obtain ⟨n, hn⟩ : ∃ n, L.length = n := ⟨_, rfl⟩
  have HN := hide hn
  rw [hn] at hL A0 X0 ⊢
  clear hP hB hn DE
  go_enter Try.func14, Try.ntmps14
  go_wp2
  generalize (w.alloc (.cells #[.int .i64 kind, .int .i64 level, .slice aI n cI, .slice aD data.length cD, .int .i64 next] 25)) = w1 at *
  go_loopw [5] (fun i wr => ∃ j : Nat, j ≤ n - 1 ∧ i = .int .i64 (j : Int) ∧ (∀ i, i < j → (L.getD (i + 1) Iv.zero).key ≤ k) ∧ Below w.heap.size w wr ∧ wr.heap[w.heap.size]? = some (.cells #[.int .i64 kind, .int .i64 level, .slice aI n cI, .slice aD data.length cD, .int .i64 next] 25 (0, 0))) (fun i _ => n - (intOf i).toNat)
  case atStart => exact ⟨0, Nat.zero_le _, rfl, fun i hi => absurd hi (Nat.not_lt_zero _), A0.out, X0.out⟩
  case round =>
    obtain ⟨j, hj, rfl, hU, hb, hx⟩ := hrel
    have UU := hide hU
    have B1 := hide hb
    have X1 := hide hx
    obtain ⟨x0, x1, x2, x3, x4⟩ := cells5 hx
    by_cases hlt : j + 1 < n
    · have hjI : (j : Int) + 1 < (n : Int) := by omega
      have hjL : j + 1 < L.length := by rw [HN.out]; exact hlt
      obtain ⟨bI, off, rfl, hr⟩ := (HJ.out.keep hb).at hjL
      obtain ⟨k0, k1, k2, k3⟩ := range4 hr
      have II := hide ((HJ.out.1 _ (getD_memR hjL)).keep hb)
      have CC := hide (Compare_any wr (L.getD (j + 1) Iv.zero).aK ak (L.getD (j + 1) Iv.zero).key.length k.length (L.getD (j + 1) Iv.zero).cK ck _ k II.out.bk (BB.out.keep hb) rfl rfl)
      clear hU hb hx hr
      by_cases hl : (L.getD (j + 1) Iv.zero).key ≤ k
      · have U2 : Hid (∀ i, i < j + 1 → (L.getD (i + 1) Iv.zero).key ≤ k) := fun i hi => by
          by_cases e : i = j
          · rw [e]; exact hl
          · exact UU.out i (by omega)
        obtain ⟨z, hz, hz0⟩ : ∃ z, cmpB (L.getD (j + 1) Iv.zero).key k = z ∧ decide (z ≤ 0) = true := ⟨_, rfl, decide_eq_true (cmpB_le.2 hl)⟩
        rw [hz] at CC
        clear hl hz II AT
        generalize L.getD (j + 1) Iv.zero = v at *
        obtain ⟨aK, cK, key, aV, cV, val, child, size⟩ := v
        simp only at k0 k1 k2 k3 CC
        go_wp2_with (go_at_call 38; refine CC.out.mono ?_; rintro _ w2 ⟨rfl, b2⟩)
        have B2 := hide (bt B1.out b2)
        have X2 := hide (blk_keep X1.out b2)
        clear b2
        go_roundw
        case rel => exact ⟨j + 1, by omega, by go_num, U2.out, B2.out, X2.out⟩
        case measure => simp [intOf]; omega
      · have SL : Hid (rout k (L.map Iv.it) = j) := AT.out j (by omega) UU.out (.inr hl)
        obtain ⟨z, hz, hz0⟩ : ∃ z, cmpB (L.getD (j + 1) Iv.zero).key k = z ∧ decide (z ≤ 0) = false := ⟨_, rfl, decide_eq_false (fun h => hl (cmpB_le.1 h))⟩
        rw [hz] at CC
        clear hl hz AT II
        generalize L.getD (j + 1) Iv.zero = v at *
        obtain ⟨aK, cK, key, aV, cV, val, child, size⟩ := v
        simp only at k0 k1 k2 k3 CC
        go_wp2_with (go_at_call 38; refine CC.out.mono ?_; rintro _ w2 ⟨rfl, b2⟩; have B2 := hide (bt B1.out b2); clear b2)
        go_ret
        exact ⟨by rw [SL.out]; rfl, B2.out⟩
    · have hjI : ¬ ((j : Int) + 1 < (n : Int)) := by omega
      have SL : Hid (rout k (L.map Iv.it) = j) := AT.out j (by rw [HN.out]; exact hj) UU.out (.inl (by rw [HN.out]; omega))
      clear hU hb hx
      go_wp2
      go_ret
      exact ⟨by rw [SL.out]; rfl, B1.out⟩
end Go.Proofs.Ytljafmkehfnldaa
