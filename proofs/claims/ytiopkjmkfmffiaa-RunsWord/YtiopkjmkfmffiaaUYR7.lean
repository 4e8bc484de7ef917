import Derived.Test.YtiopkjmkfmffiaaUYSX
import Derived.BigQuiet
import Derived.BigRegion
import Derived.Deep.RegionHeld3
namespace Go.Proofs.Ytiopkjmkfmffiaa
set_option linter.unusedVariables false
open Go.RowKit

/-! ### renew: kind 7 -/
set_option maxHeartbeats 8000000 in
set_option maxRecDepth 20000 in
theorem renew7_any (Z : Nat → Prop) (w : World) (X m : Nat) (D : Dat) (o : Opv) (hk : o.k = 7) (hW : Wk Z w X m D) (ho : o.ok w Z) (hm : m ≤ 1954687338620) :
    Calls Try.prog 28 #[pt X, .agg o.cs.toArray] w (Did Z w X m) := by
  obtain ⟨k, who, tt, lo, hi, n, aL, L, cL⟩ := o
  obtain ⟨s, hs, hS1⟩ := slot_any w who ho.who
  obtain ⟨s2, hs2, hS2⟩ := slot_any w tt ho.tt
  have S1 := hide hS1
  have S2 := hide hS2
  have HO := hide ho
  clear hS1 hS2
  obtain rfl : k = 7 := hk
  unfold Opv.cs pt
  simp only
  have lL := ho.len
  obtain ⟨nL, hnL⟩ : ∃ nL : Nat, nL = L.length := ⟨_, rfl⟩
  rw [← hnL] at lL ⊢
  have NLL := hide hnL
  clear hnL ho
  obtain ⟨n2, hn2⟩ : ∃ n2 : Nat, n2 = nL + 2 := ⟨_, rfl⟩
  have N2 := hide hn2
  have e2 : (nL : Int) + 2 = (n2 : Int) := by omega
  have ln2 : n2 ≤ 8796093022208 := by omega
  have ln3 : nL < n2 := by omega
  have ln4 : nL + 1 < n2 := by omega
  clear hn2
  obtain ⟨W0, hW0⟩ : ∃ W0, w.alloc (.cells #[.int .i64 7, .int .i64 who, .int .i64 tt, .int .i64 lo, .int .i64 hi, .int .i64 n, .slice aL nL cL] 40) = W0 := ⟨_, rfl⟩
  have b0 : Below w.heap.size w W0 := by rw [← hW0]; exact al _ _
  have box : W0.heap[w.heap.size]? = some (.cells #[.int .i64 7, .int .i64 who, .int .i64 tt, .int .i64 lo, .int .i64 hi, .int .i64 n, .slice aL nL cL] 40 (0, 0)) := by rw [← hW0]; exact World.alloc_heap_new w _
  have q1 : W0.cell? ⟨w.heap.size, 1, none⟩ = some (.int .i64 who) := by rw [cell_of_row _ _ _ _ _ _ box]; rfl
  have q2 : W0.cell? ⟨w.heap.size, 2, none⟩ = some (.int .i64 tt) := by rw [cell_of_row _ _ _ _ _ _ box]; rfl
  have BOX := hide box
  have B0 := hide b0
  have HW := hide hW
  clear hW box b0
  go_enter Try.func28, Try.ntmps28
  go_wp2_with fail
  try rw [hW0]
  clear hW0
  obtain ⟨bx, hbx⟩ : ∃ bx : Nat, w.heap.size = bx := ⟨_, rfl⟩
  rw [hbx] at q1 q2 BOX ⊢
  have BX := hide hbx
  clear hbx
  go_quiet (first | exact Calls.quiet_of_same (S1.out _) | exact Calls.quiet_of_same (S2.out _))
  obtain ⟨W1, hW1⟩ : ∃ W1, W0.drewN nq = W1 := ⟨_, rfl⟩
  have b1 : Below w.heap.size w W1 := by rw [← hW1]; exact bt B0.out (drews _ _)
  have BOX := hide (show W1.heap[bx]? = some (.cells #[.int .i64 7, .int .i64 who, .int .i64 tt, .int .i64 lo, .int .i64 hi, .int .i64 n, .slice aL nL cL] 40 (0, 0)) by rw [← hW1]; exact BOX.out)
  rw [hW1]
  clear hW1 q1 q2
  have q6 : W1.cell? ⟨bx, 6, none⟩ = some (.slice aL nL cL) := by rw [cell_of_row _ _ _ _ _ _ BOX.out]; rfl
  have hmk := make_run n2 n2 (Nat.le_refl _) ln2 W1
  have hV0 := made_vw W1 n2 ln2
  have a1 := al W1 (.cells (madeCells (rcs Rn.zero) (n2 * 2)) 46)
  obtain ⟨Wa, hWa⟩ : ∃ Wa, W1.alloc (.cells (madeCells (rcs Rn.zero) (n2 * 2)) 46) = Wa := ⟨_, rfl⟩
  rw [hWa] at hmk hV0 a1
  have q6a := (a1.cell (p := ⟨bx, 6, none⟩) (block_lt_of_cell q6)).trans q6
  have hmk2 := make_list n2 ln2 Wa
  have hJ0 := made_list Wa n2 ln2
  have a2 := al Wa (.cells (madeCells #[.int .u16 0] (n2 * 1)) 24)
  obtain ⟨Wb, hWb⟩ : ∃ Wb, Wa.alloc (.cells (madeCells #[.int .u16 0] (n2 * 1)) 24) = Wb := ⟨_, rfl⟩
  rw [hWb] at hmk2 hJ0 a2
  obtain ⟨Wd, hWd⟩ : ∃ Wd, Wb.alloc (.cells #[.slice none 0 0] 38) = Wd := ⟨_, rfl⟩
  have a3 : Below Wb.heap.size Wb Wd := by rw [← hWd]; exact al _ _
  have hN0 : Rt Wd Wb.heap.size none 0 [] := ⟨by rw [← hWd]; exact World.alloc_heap_new Wb _, Rf.Vw.nil _, Can.nil, by simp, by simp⟩
  have LD := hide (show Ld Wd bx W1.heap.size Wa.heap.size Wb.heap.size #[.int .i64 7, .int .i64 who, .int .i64 tt, .int .i64 lo, .int .i64 hi, .int .i64 n, .slice aL nL cL] n2 (inK L n2 0) (loK L n2 0) none 0 [] from
    ⟨((bt a1 (bt a2 a3)).block bx (Array.getElem?_eq_some_iff.1 BOX.out).1).trans BOX.out, (show Vw Wa (some ⟨W1.heap.size, 0, none⟩) n2 (inK L n2 0) by simpa [inK] using hV0).keep (bt a2 a3), by simp [inK], (show Gw 24 1 Wb (some ⟨Wa.heap.size, 0, none⟩) n2 n2 (kc (loK L n2 0)) by simpa [loK] using hJ0).keep a3, hN0⟩)
  have LO := hide (show w.heap.size ≤ W1.heap.size ∧ w.heap.size ≤ Wa.heap.size ∧ w.heap.size ≤ Wb.heap.size ∧ w.heap.size ≤ bx from ⟨b1.size, Nat.le_trans b1.size a1.size, Nat.le_trans (Nat.le_trans b1.size a1.size) a2.size, by rw [BX.out]; exact Nat.le_refl _⟩)
  have BD := hide (show Below w.heap.size w Wd from bt b1 (bt a1 (bt a2 a3)))
  clear hV0 hJ0 a1 a2 a3 hN0 b1
  go_wp2_with fail
  clear hmk hmk2 hWa hWb hWd q6 q6a
  obtain ⟨I, hI⟩ : ∃ I, W1.heap.size = I := ⟨_, rfl⟩
  obtain ⟨J, hJ⟩ : ∃ J, Wa.heap.size = J := ⟨_, rfl⟩
  obtain ⟨N, hN⟩ : ∃ N, Wb.heap.size = N := ⟨_, rfl⟩
  rw [hI, hJ, hN] at LD LO ⊢
  clear hI hJ hN
  obtain ⟨OB, hOB⟩ : ∃ OB : Array Value, OB = #[.int .i64 7, .int .i64 who, .int .i64 tt, .int .i64 lo, .int .i64 hi, .int .i64 n, .slice aL nL cL] := ⟨_, rfl⟩
  rw [← hOB] at LD
  have HOB := hide hOB
  have b6 := hide (show ∀ V a cap IN LZ Q, Ld V bx I J N OB n2 IN LZ a cap Q → V.cell? ⟨bx, 6, none⟩ = some (.slice aL nL cL) ∧ V.cell? ⟨bx, 0, none⟩ = some (.int .i64 7) from fun V a cap IN LZ Q h => by
    have hb := h.box
    rw [HOB.out] at hb
    rw [cell_of_row _ _ _ _ _ _ hb, cell_of_row _ _ _ _ _ _ hb]
    exact ⟨rfl, rfl⟩)
  clear hOB BOX
  go_loopw [10] (fun i wx => ∃ k : Nat, k ≤ nL ∧ i = .int .i64 k ∧ Ld wx bx I J N OB n2 (inK L n2 k) (loK L n2 k) none 0 [] ∧ Below w.heap.size w wx) (fun i _ => nL - (intOf i).toNat)
  case atStart => exact ⟨0, Nat.zero_le _, rfl, LD.out, BD.out⟩
  case round =>
    clear LD BD
    obtain ⟨q, hq, rfl, hLd, hbw⟩ := hrel
    have LDq := hide hLd
    have BDq := hide hbw
    obtain ⟨c6, c0⟩ := b6.out _ _ _ _ _ _ hLd
    by_cases hlt : q < nL
    · have hqL : q < L.length := by rw [← NLL.out]; exact hlt
      have hq2 : q < n2 := by omega
      have x1 : (q : Int) < (n2 : Int) := by omega
      obtain ⟨b1, o1, rfl, d1, d2⟩ := (HO.out.ir.keep hbw).at hqL
      have i0 := hLd.inr.cell (i := q) (by rw [hLd.inl]; exact hq2)
      have f0 := hLd.inr.thaw (q * 2)
      have IN1 := hide (inK_next hqL (m := n2) (by rw [← NLL.out]; omega))
      have LO1 := hide (loK_next hqL (m := n2) (by rw [← NLL.out]; omega))
      have hcv : cv (L.getD q Rn.zero) = (IntKind.u16.wrap (L.getD q Rn.zero).1, IntKind.u16.wrap (L.getD q Rn.zero).2) := rfl
      have hnb := HO.out.bnd _ (getD_mem hqL)
      generalize L.getD q Rn.zero = r at *
      obtain ⟨x, y⟩ := r
      simp only at d1 d2 hcv hnb
      obtain ⟨lo', hlo⟩ : ∃ z, IntKind.u16.wrap x = z := ⟨_, rfl⟩
      obtain ⟨hi', hhi⟩ : ∃ z, IntKind.u16.wrap y = z := ⟨_, rfl⟩
      rw [hlo, hhi] at hcv
      skip
      rw [hcv] at IN1 LO1
      simp only at LO1
      have o1' := hLd.inr.one (i := q) (by rw [hLd.inl]; exact hq2) (.int .u16 lo')
      obtain ⟨o1c, o1f⟩ := o1'
      have L1 := hLd.setI hq2 (lo', hi')
      rw [IN1.out] at L1
      simp only at L1
      have i1 := L1.inr.cell (i := q) (by rw [L1.inl]; exact hq2)
      have iE : (inK L n2 (q + 1)).getD q Rn.zero = (lo', hi') := by
        rw [← IN1.out, List.getD_eq_getElem?_getD, List.getElem?_set_self (by rw [hLd.inl]; exact hq2)]
        rfl
      rw [iE] at i1
      simp only at i1
      obtain ⟨i1a, i1b⟩ := i1
      have lz : (kc (loK L n2 q))[q]? = some (.int .u16 ((loK L n2 q).getD q 0)) := kc_get _ (by have := hLd.los.length; rw [kc_length] at this; omega)
      have j1 := L1.los.cell lz
      have j2 := L1.los.thaw q
      have L2 := hide (show Ld _ bx I J N OB n2 (inK L n2 (q + 1)) (loK L n2 (q + 1)) none 0 [] by rw [← LO1.out]; exact L1.setJ hq2 lo')
      have BI := hide (LO.out)
      obtain ⟨i0a, i0b⟩ := i0
      clear hLd hbw L1 iE lz hcv hnb
      go_wp2
      go_region
      all_goals
        go_wp2
        go_roundw
        (case rel => exact ⟨q + 1, by omega, by simp, L2.out.keep (drews _ 1), bt (((BDq.out.setCell (p := ⟨I, q * 2, none⟩) BI.out.1 _).setCell (p := ⟨I, q * 2 + 1, none⟩) BI.out.1 _).setCell (p := ⟨J, q, none⟩) BI.out.2.1 _) (drews _ 1)⟩)
        (case measure => simp [intOf]; omega)
    · obtain rfl : q = nL := by omega
      obtain ⟨q1, hq1⟩ : ∃ q1 : Nat, q1 = q + 1 := ⟨_, rfl⟩
      rw [← hq1] at ln4
      have Q1 := hide hq1
      obtain ⟨V0, hV0⟩ : ∃ V0, wr.alloc (.cells #[.int .u16 77, .int .u16 78] 46) = V0 := ⟨_, rfl⟩
      have av : Below wr.heap.size wr V0 := by rw [← hV0]; exact al _ _
      have L0 := hLd.keep av
      have rb := World.alloc_heap_new wr (.cells #[.int .u16 77, .int .u16 78] 46)
      rw [hV0] at rb
      have rm0 : V0.cell? ⟨wr.heap.size, 0, none⟩ = some (.int .u16 77) := by rw [cell_of_row _ _ _ _ _ _ rb]; rfl
      have rm1 : V0.cell? ⟨wr.heap.size, 1, none⟩ = some (.int .u16 78) := by rw [cell_of_row _ _ _ _ _ _ rb]; rfl
      have hIr : I < wr.heap.size := hLd.inr.lt rfl
      have hJr : J < wr.heap.size := hLd.los.lt rfl
      have hNr : N < wr.heap.size := hLd.nxt.lt
      have wrL := hide (Nat.le_trans (Nat.le_refl _) hbw.size)
      /- the four stores -/
      have K0 := b6.out _ _ _ _ _ _ L0
      have s0 := L0.inr.cell (i := q) (by rw [L0.inl]; exact ln3)
      have s0f := L0.inr.thaw (q * 2)
      have s0o := L0.inr.one (i := q) (by rw [L0.inl]; exact ln3) (.int .u16 77)
      have L1 := L0.setI ln3 room
      simp only [room] at L1
      have s1 := L1.inr.cell (i := q1) (by rw [L1.inl]; exact ln4)
      have s1f := L1.inr.thaw (q1 * 2)
      have s1o := L1.inr.one (i := q1) (by rw [L1.inl]; exact ln4) (.int .u16 77)
      have L2 := L1.setI ln4 room
      simp only [room] at L2
      have lzq : ∀ i, i < n2 → (kc (loK L n2 q))[i]? = some (.int .u16 ((loK L n2 q).getD i 0)) := fun i hi => kc_get _ (by have := hLd.los.length; rw [kc_length] at this; omega)
      have s2 := L2.los.cell (lzq q ln3)
      have s2f := L2.los.thaw q
      have L3 := L2.setJ ln3 77
      have s3 : _ := L3.los.cell (kc_get _ (i := q1) (by have := L3.los.length; rw [kc_length] at this; omega))
      have s3f := L3.los.thaw q1
      have L4 := L3.setJ ln4 77
      obtain ⟨s0a, s0b⟩ := s0
      obtain ⟨s1a, s1b⟩ := s1
      obtain ⟨s0c, s0d⟩ := s0o
      obtain ⟨s1c, s1d⟩ := s1o
      have y1 : (q : Int) + 1 = (q1 : Int) := by omega
      have y2 : (q : Int) < (n2 : Int) := by omega
      have y3 : (q1 : Int) < (n2 : Int) := by omega
      have ef : n2 = L.length + 2 := by rw [N2.out, NLL.out]
      have LF := hide (show Ld _ bx I J N OB n2 (inF L) (loF L) none 0 [] by
        have t := L4
        rw [← inK_full L, ← loK_full L, ← ef, ← NLL.out, ← Q1.out]
        exact t)
      obtain ⟨K0a, K0b⟩ := K0
      have L0' := hide L0
      have BV := hide (bt hbw av)
      obtain ⟨rmb, hrmb⟩ : ∃ rmb, wr.heap.size = rmb := ⟨_, rfl⟩
      rw [hrmb] at rm0 rm1 hIr hJr hNr wrL
      have RN := hide (show rmb ≠ N ∧ rmb ≠ I ∧ rmb ≠ J from ⟨by omega, by omega, by omega⟩)
      clear hNr
      clear hq1 L0 L1 L2 L3 L4 hLd ef lzq rb av hbw LDq BDq
      go_wp2_with fail
      try rw [hV0]
      try rw [hrmb]
      clear hV0 hrmb c6 c0
      have SS := hide (show ∀ V, But (fun k => k = I ∨ k = J) V0 V → V.cell? ⟨bx, 6, none⟩ = some (.slice aL q cL) ∧ V.cell? ⟨rmb, 0, none⟩ = some (.int .u16 77) ∧ V.cell? ⟨rmb, 1, none⟩ = some (.int .u16 78) from fun V hB => ⟨(hB.cell (p := ⟨bx, 6, none⟩) (block_lt_of_cell K0a) (fun h => by
        have h' : bx = I ∨ bx = J := h
        obtain ⟨c1, e1⟩ := L0'.out.inr.blk
        obtain ⟨c2, e2⟩ := L0'.out.los.blk
        rcases h' with h' | h'
        · exact blk_ne L0'.out.box e1 (by decide) h'
        · exact blk_ne L0'.out.box e2 (by decide) h')).trans K0a, (hB.cell (p := ⟨rmb, 0, none⟩) (block_lt_of_cell rm0) (fun h => by have h' : rmb = I ∨ rmb = J := h; omega)).trans rm0, (hB.cell (p := ⟨rmb, 1, none⟩) (block_lt_of_cell rm1) (fun h => by have h' : rmb = I ∨ rmb = J := h; omega)).trans rm1⟩)
      have B1 : But (fun k => k = I ∨ k = J) V0 ((V0.setCell ⟨I, q * 2, none⟩ (.int .u16 77)).setCell ⟨I, q * 2 + 1, none⟩ (.int .u16 78)) := ((But.refl (fun k => k = I ∨ k = J) V0).setCell (p := ⟨I, q * 2, none⟩) (fun _ => .inl rfl) _).setCell (p := ⟨I, q * 2 + 1, none⟩) (fun _ => .inl rfl) _
      have B2 := (B1.setCell (p := ⟨I, q1 * 2, none⟩) (fun _ => .inl rfl) (.int .u16 77)).setCell (p := ⟨I, q1 * 2 + 1, none⟩) (fun _ => .inl rfl) (.int .u16 78)
      have B3 := B2.setCell (p := ⟨J, q, none⟩) (fun _ => .inr rfl) (.int .u16 77)
      have B4 := B3.setCell (p := ⟨J, q1, none⟩) (fun _ => .inr rfl) (.int .u16 77)
      have U0 := SS.out _ (But.refl (fun k => k = I ∨ k = J) V0).drew
      have U1 := SS.out _ B1.drew
      have U2 := SS.out _ B2.drew
      have U3 := SS.out _ B3.drew
      have U4 := SS.out _ B4.drew
      have B4' := hide B4
      have y4 : IntKind.i64.wrap (q1 : Int) = (q1 : Int) := wrapI (by omega) (by omega)
      have y5 : wrap64 (q1 : Int) = (q1 : Int) := by unfold wrap64; omega
      have y6 : (0 : Int) ≤ (q : Int) := Int.natCast_nonneg q
      have y7 : (0 : Int) ≤ (q1 : Int) := Int.natCast_nonneg q1
      have RMM := hide (show V0.cell? ⟨rmb, 0, none⟩ = some (.int .u16 77) ∧ V0.cell? ⟨rmb, 1, none⟩ = some (.int .u16 78) from ⟨rm0, rm1⟩)
      clear B1 B2 B3 B4 K0a rm0 rm1
      go_region_held3 (fun V => V.cell? ⟨bx, 6, none⟩ = some (.slice aL q cL) ∧ V.cell? ⟨rmb, 0, none⟩ = some (.int .u16 77) ∧ V.cell? ⟨rmb, 1, none⟩ = some (.int .u16 78))
        (first | with_reducible exact U0 | with_reducible exact U1 | with_reducible exact U2 | with_reducible exact U3 | with_reducible exact U4)
        (first | fail)
      obtain ⟨V, hV⟩ : ∃ V, (((((((V0.setCell ⟨I, q * 2, none⟩ (.int .u16 77)).setCell ⟨I, q * 2 + 1, none⟩ (.int .u16 78)).setCell ⟨I, q1 * 2, none⟩ (.int .u16 77)).setCell ⟨I, q1 * 2 + 1, none⟩ (.int .u16 78)).setCell ⟨J, q, none⟩ (.int .u16 77)).setCell ⟨J, q1, none⟩ (.int .u16 77)).drew) = V := ⟨_, rfl⟩
      have LV := hide (show Ld V bx I J N OB n2 (inF L) (loF L) none 0 [] by rw [← hV]; exact LF.out.keep (drews _ 1))
      have RV := hide (show V.cell? ⟨rmb, 0, none⟩ = some (.int .u16 77) ∧ V.cell? ⟨rmb, 1, none⟩ = some (.int .u16 78) by rw [← hV]; exact U4.2)
      have WV := hide (show Below w.heap.size w V by
        rw [← hV]
        refine bt ?_ (drews _ 1)
        refine (((((BV.out.setCell (p := ⟨I, q * 2, none⟩) LO.out.1 _).setCell (p := ⟨I, q * 2 + 1, none⟩) LO.out.1 _).setCell (p := ⟨I, q1 * 2, none⟩) LO.out.1 _).setCell (p := ⟨I, q1 * 2 + 1, none⟩) LO.out.1 _).setCell (p := ⟨J, q, none⟩) LO.out.2.1 _).setCell (p := ⟨J, q1, none⟩) LO.out.2.1 _)
      have IJ := hide (show I < V.heap.size ∧ J < V.heap.size ∧ N < V.heap.size ∧ bx < V.heap.size ∧ rmb < V.heap.size from ⟨LV.out.inr.lt rfl, LV.out.los.lt rfl, LV.out.nxt.lt, (Array.getElem?_eq_some_iff.1 LV.out.box).1, block_lt_of_cell RV.out.1⟩)
      rw [hV]
      clear hV U0 U1 U2 U3 U4 y1 y2 y3 y4 y5 y6 y7 s0a s0b s0c s0d s0f s1a s1b s1c s1d s1f s2 s2f s3 s3f LF SS B4' RMM BV L0' K0b hIr hJr e2
      obtain ⟨K6, K0⟩ := b6.out _ _ _ _ _ _ LV.out
      obtain ⟨c, hc⟩ := HW.out.wc
      have lX := hc.lt
      have HC := hide (hc.keep WV.out)
      clear hc
      obtain ⟨VH, hVH⟩ : ∃ VH, V.heap.size = VH := ⟨_, rfl⟩
      have vH := WV.out.size
      rw [hVH] at IJ vH
      have HVH := hide hVH
      clear hVH
      have rmw : w.heap.size ≤ rmb := wrL.out
      have sI : (s : Int) < 3 := by omega
      have sI0 : (0 : Int) ≤ (s : Int) := by omega
      have s2I : (s2 : Int) < 3 := by omega
      have s2I0 : (0 : Int) ≤ (s2 : Int) := by omega
      have LZ' := hide (show ∀ wx, But (fun k => k = X) w wx → Rf.Vs wx aL L from fun wx hB => by
        by_cases h0 : L = []
        · exact .inl h0
        · refine HO.out.ir.but hB (fun x hx e => ?_)
          have hz := HO.out.z x hx h0
          obtain ⟨c, hc⟩ := HW.out.wc
          have h1 := (hc.cz _ hz).2
          rw [e, hc.cX] at h1
          omega)
      go_wp2_with fail
      have SE2 := hide (HW.out.eq s2 hs2)
      have ST2 := hide (HC.out.st s2 hs2)
      have RT2 := hide (HC.out.rt s2 hs2)
      rw [← SE2.out] at RT2
      obtain ⟨pa1, pa2⟩ := HC.out.cellP hs2
      unfold pt at pa1 pa2
      have C1 := hide fun (V' : World) (hb : Below V.heap.size V V') => Copy_any V' (D.P s2) (D.pa s2) (D.pc s2) (D.S s2) (ST2.out.keep hb)
      have C2 := hide fun (V' : World) (hb : Below V.heap.size V V') => rCopy_any V' (D.R s2) (D.ra s2) (D.rc s2) (D.S s2) (RT2.out.keep hb)
      have T1 := hide (show Below V.heap.size V V.drew from drews V 1)
      have pb1 : V.drew.cell? ⟨X, s2, none⟩ = some (.pointer (some ⟨D.P s2, 0, none⟩)) := pa1
      have pb2 : V.drew.cell? ⟨X, 3 + s2, none⟩ = some (.pointer (some ⟨D.R s2, 0, none⟩)) := pa2
      go_region_law
        (first
          | (refine step_call rfl 49 _ _ rfl (enters_of Try.func49 (by kernel_rfl) rfl) _ (by simp [Act.eval]) (C1.out _ T1.out) ?_; rintro e w8 ⟨b', a', cap', rfl, z1⟩; refine ⟨_, rfl, ?_⟩; have pb1 := (z1.w.cell (p := ⟨X, s2, none⟩) (block_lt_of_cell pb1)).trans pb1; have pb2 := (z1.w.cell (p := ⟨X, 3 + s2, none⟩) (block_lt_of_cell pb2)).trans pb2; have Z1 := hide (show St w8 b' a' cap' (D.S s2) ∧ VH ≤ b' ∧ ∀ x, a' = some x → VH ≤ x.block from ⟨z1.st, by have := z1.b; have := HVH.out; have := T1.out.size; omega, fun x hx => by have := z1.a x hx; have := HVH.out; have := T1.out.size; omega⟩); have T1 := hide (bt T1.out z1.w); clear z1)
          | (refine step_call rfl 21 _ _ rfl (enters_of Try.func21 (by kernel_rfl) rfl) _ (by simp [Act.eval]) (C2.out _ T1.out) ?_; rintro e w9 ⟨b2, a2, cap2, rfl, g1, g2, g3, g4⟩; refine ⟨_, rfl, ?_⟩; have T2 := hide (bt T1.out g4); have x1 := ((HC.out.keep T2.out).cellP hs).1; have x2 := (HC.out.keep T2.out).free s; have TL := hide (show Tl w w9 X VH D.cells b' a' cap' (D.S s2) rmb from ⟨(But.ofBelow WV.out).andBelow T2.out, (HC.out.keep T2.out).blk, Z1.out.1.keep g4, Z1.out.2.1, Z1.out.2.2, (T2.out.cell (p := ⟨rmb, 0, none⟩) (block_lt_of_cell RV.out.1)).trans RV.out.1, (T2.out.cell (p := ⟨rmb, 1, none⟩) (block_lt_of_cell RV.out.2)).trans RV.out.2⟩); have L8 := hide (show Ld w9 bx I J b2 OB n2 (inF L) (loF L) a2 cap2 (D.S s2) from ⟨(LV.out.keep T2.out).box, (LV.out.keep T2.out).inr, LV.out.inl, (LV.out.keep T2.out).los, g1⟩); have FN := hide (show w.heap.size ≤ b2 ∧ ∀ x, a2 = some x → w.heap.size ≤ x.block from ⟨by have := T1.out.size; have := HVH.out; omega, fun x hx => by have := g3 x hx; have := T1.out.size; have := HVH.out; omega⟩); unfold pt at x1; have pb1 := (g4.cell (p := ⟨X, s2, none⟩) (block_lt_of_cell pb1)).trans pb1; have pb2 := (g4.cell (p := ⟨X, 3 + s2, none⟩) (block_lt_of_cell pb2)).trans pb2; clear g1 g2 g3 g4))
      all_goals
        have hTl := TL.out.store lX rmw vH s (pt b')
        have hLd := L8.out.apart TL.out.hx (by decide) (by decide) (by decide) (by decide) (by decide) (set_but w9 X s (pt b'))
        unfold pt at hTl hLd
        obtain ⟨wr2, hwr⟩ : ∃ wr2, w9.setCell ⟨X, s, none⟩ (.pointer (some ⟨b', 0, none⟩)) = wr2 := ⟨_, rfl⟩
        rw [hwr] at hTl hLd
        have b6 := hide (show ∀ V a cap IN LZ Q, Ld V bx I J b2 OB n2 IN LZ a cap Q → V.cell? ⟨bx, 6, none⟩ = some (.slice aL q cL) ∧ V.cell? ⟨bx, 0, none⟩ = some (.int .i64 7) from fun V a cap IN LZ Q h => by
          have hb := h.box
          rw [HOB.out] at hb
          rw [cell_of_row _ _ _ _ _ _ hb, cell_of_row _ _ _ _ _ _ hb]
          exact ⟨rfl, rfl⟩)
        obtain ⟨c6, c0⟩ := b6.out _ _ _ _ _ _ hLd
        have hQn := FN.out.2
        obtain ⟨k, rfl⟩ : ∃ k, k = q := ⟨q, rfl⟩
        have x26 := (show wr2.cell? ⟨X, 3 + s, none⟩ = some (.pointer (some ⟨D.R s, 0, none⟩)) by
          rw [cell_of_row _ _ _ _ _ _ hTl.hx]
          match s, hs with
          | 0, _ => rfl
          | 1, _ => rfl
          | 2, _ => rfl)
        have f26 : wr2.frozen? ⟨X, 3 + s, none⟩ = false := frozen_of_row _ _ _ _ _ hTl.hx
        have TA := hide (hTl.store lX rmw vH (3 + s) (pt b2))
        have LA := hide (hLd.apart hTl.hx (by decide) (by decide) (by decide) (by decide) (by decide) (set_but wr2 X (3 + s) (pt b2)))
        unfold pt at TA LA
        obtain ⟨WA, hWA⟩ : ∃ WA, wr2.setCell ⟨X, 3 + s, none⟩ (.pointer (some ⟨b2, 0, none⟩)) = WA := ⟨_, rfl⟩
        rw [hWA] at TA LA
        obtain ⟨a6, a0⟩ := b6.out _ _ _ _ _ _ LA.out
        have yy := inF_at L
        have zz := loF_at L
        rw [← NLL.out] at yy zz
        obtain ⟨_, in1, in2, inl⟩ := yy
        obtain ⟨_, lo1, lo2, lol⟩ := zz
        have in1c := LA.out.inr.cell (i := k) (by rw [LA.out.inl]; exact ln3)
        have in2c := LA.out.inr.cell (i := q1) (by rw [LA.out.inl]; exact ln4)
        have lo1c := LA.out.los.cell (kc_get _ (i := k) (by rw [lol]; omega))
        have lo2c := LA.out.los.cell (kc_get _ (i := q1) (by rw [lol, Q1.out]; omega))
        rw [Q1.out] at in2c lo2c
        rw [in1] at in1c
        rw [in2] at in2c
        rw [lo1] at lo1c
        rw [lo2] at lo2c
        rw [← Q1.out] at in2c lo2c
        simp only [room] at in1c in2c
        obtain ⟨in1a, in1b⟩ := in1c
        obtain ⟨in2a, in2b⟩ := in2c
        have rm0 := TA.out.r0
        have rm1 := TA.out.r1
        have y1 : (k : Int) + 1 = (q1 : Int) := by rw [Q1.out]; omega
        have y2 : (k : Int) < (n2 : Int) := by omega
        have y3 : (q1 : Int) < (n2 : Int) := by omega
        have y6 : (0 : Int) ≤ (k : Int) := Int.natCast_nonneg k
        have y7 : (0 : Int) ≤ (q1 : Int) := Int.natCast_nonneg q1
        have w1 : IntKind.i64.wrap (q1 : Int) = (q1 : Int) := wrapI (by omega) (by omega)
        have w2 : wrap64 (q1 : Int) = (q1 : Int) := by have := y3; unfold wrap64; omega
        have hqR := run_eqR
        have hgd : Try.prog.eqGuardType Try.prog.depth 46 = false := by kernel_rfl
        clear in1 in2 lo1 lo2 inl lol
        go_wp2_with fail
        try rw [hWA]
        clear hWA x26 f26
        go_quiet (fail)
        obtain ⟨WB, hWB⟩ : ∃ WB, WA.drewN nq = WB := ⟨_, rfl⟩
        have TB := hide (show Tl w WB X VH _ b' a' cap' (D.S s2) rmb by rw [← hWB]; exact TA.out.keep (drews WA nq))
        have LB := hide (show Ld WB bx I J b2 OB n2 (inE L 0) (loE L 0) a2 cap2 (D.S s2) by rw [← hWB, inE_zero, loE_zero]; exact LA.out.keep (drews WA nq))
        rw [hWB]
        clear hWB TA LA a6 a0 in1a in1b in2a in2b lo1c lo2c rm0 rm1 y1 y2 y3 y6 y7 w1 w2 c6 c0
        go_wp2_with fail
        go_loopw [14, 15] (fun p i wx => ∃ j : Nat, j ≤ k ∧ p = .bool true ∧ i = .int .i64 j ∧ Ld wx bx I J b2 OB n2 (inE L j) (loE L j) a2 cap2 (D.S s2) ∧ Tl w wx X VH ((D.cells.set s (.pointer (some ⟨b', 0, none⟩))).set (3 + s) (.pointer (some ⟨b2, 0, none⟩))) b' a' cap' (D.S s2) rmb) (fun _ i _ => k - (intOf i).toNat)
        case atStart => exact ⟨0, Nat.zero_le _, rfl, rfl, LB.out, TB.out⟩
        case round =>
          clear TB LB
          obtain ⟨j, hj, rfl, rfl, hLj, hTj⟩ := hrel
          have LJ := hide hLj
          have TJ := hide hTj
          obtain ⟨c6, c0⟩ := b6.out _ _ _ _ _ _ hLj
          by_cases hjk : j < k
          · have hjL : j < L.length := by rw [← NLL.out]; exact hjk
            have hj2 : j < n2 := by omega
            have y2 : (j : Int) < (n2 : Int) := by omega
            obtain ⟨b1, o1, rfl, d1, d2⟩ := (LZ'.out _ hTj.bu).at hjL
            have e1 := inE_at hjL
            have e2 := loE_at hjL
            have i0 := hLj.inr.cell (i := j) (by rw [hLj.inl]; exact hj2)
            have l0 := hLj.los.cell (kc_get _ (i := j) (by have := hLj.los.length; rw [kc_length] at this; omega))
            rw [e1.1] at i0
            rw [e2.1] at l0
            have E1 := hide e1.2
            have E2 := hide e2.2
            have hnb := HO.out.bnd _ (getD_mem hjL)
            have hcv : cv (L.getD j Rn.zero) = (IntKind.u16.wrap (L.getD j Rn.zero).1, IntKind.u16.wrap (L.getD j Rn.zero).2) := rfl
            rw [hcv] at i0 l0
            clear e1 e2 hcv
            generalize L.getD j Rn.zero = r at *
            obtain ⟨x, y⟩ := r
            simp only at d1 d2 hnb i0 l0
            obtain ⟨lo', hlo⟩ : ∃ z, IntKind.u16.wrap x = z := ⟨_, rfl⟩
            obtain ⟨hi', hhi⟩ : ∃ z, IntKind.u16.wrap y = z := ⟨_, rfl⟩
            rw [hlo, hhi] at i0
            rw [hlo] at l0
            skip
            obtain ⟨i0a, i0b⟩ := i0
            have z1 : (lo' == lo') = true := by simp
            have r0 := hTj.r0
            have r1 := hTj.r1
            clear hLj hTj
            go_wp2_with fail
            go_quiet (fail)
            obtain ⟨W5, hW5⟩ : ∃ W5, wr.drewN nq = W5 := ⟨_, rfl⟩
            have L5 : Ld W5 bx I J b2 OB n2 (inE L j) (loE L j) a2 cap2 (D.S s2) := by rw [← hW5]; exact LJ.out.keep (drews wr nq)
            have T5 := hide (show Tl w W5 X VH ((D.cells.set s (.pointer (some ⟨b', 0, none⟩))).set (3 + s) (.pointer (some ⟨b2, 0, none⟩))) b' a' cap' (D.S s2) rmb by rw [← hW5]; exact TJ.out.keep (drews wr nq))
            rw [hW5]
            clear hW5 i0a i0b l0 r0 r1 d1 d2 c6 c0 LJ TJ
            have r0 := T5.out.r0
            have r1 := T5.out.r1
            have i5 := L5.inr.cell (i := j) (by rw [L5.inl]; exact hj2)
            have f5 := L5.inr.thaw (j * 2)
            have o5 := L5.inr.one (i := j) (by rw [L5.inl]; exact hj2) (.int .u16 77)
            have L6 := L5.setI hj2 room
            simp only [room] at L6
            have j6 := L6.los.cell (kc_get _ (i := j) (by have := L6.los.length; rw [kc_length] at this; omega))
            have g6 := L6.los.thaw j
            have L7 := L6.setJ hj2 77
            have L8 := hide (show Ld _ bx I J b2 OB n2 (inE L (j + 1)) (loE L (j + 1)) a2 cap2 (D.S s2) by rw [← E1.out, ← E2.out]; exact L7)
            have B6 : But (fun k => k = I) W5 ((W5.setCell ⟨I, j * 2, none⟩ (.int .u16 77)).setCell ⟨I, j * 2 + 1, none⟩ (.int .u16 78)) := ((But.refl (fun k => k = I) W5).setCell (p := ⟨I, j * 2, none⟩) (fun _ => rfl) _).setCell (p := ⟨I, j * 2 + 1, none⟩) (fun _ => rfl) _
            have B7 := (But.refl (fun k => k = J) ((W5.setCell ⟨I, j * 2, none⟩ (.int .u16 77)).setCell ⟨I, j * 2 + 1, none⟩ (.int .u16 78))).setCell (p := ⟨J, j, none⟩) (fun _ => rfl) (.int .u16 77)
            have T8 := hide ((T5.out.locl lX LO.out.1 IJ.out.1 RN.out.2.1 B6).locl lX LO.out.2.1 IJ.out.2.1 RN.out.2.2 B7)
            obtain ⟨i5a, i5b⟩ := i5
            obtain ⟨o5a, o5b⟩ := o5
            clear L5 L6 L7 B6 B7
            go_wp2
            go_roundw
            case rel => exact ⟨j + 1, by omega, rfl, by simp, L8.out, T8.out⟩
            case measure => simp [intOf]; omega
          · obtain rfl : j = k := by omega
            have xs : wr.cell? ⟨X, s, none⟩ = some (.pointer (some ⟨b', 0, none⟩)) := by
              rw [cell_of_row _ _ _ _ _ _ hTj.hx]
              match s, hs with
              | 0, _ => rfl
              | 1, _ => rfl
              | 2, _ => rfl
            have FIN := hide (HW.out.renew hs hTj.bu hTj.hx hTj.st hLj.nxt (by have := hTj.sb; omega) (fun x hx => by have := hTj.sa x hx; omega) FN.out.1 hQn (fun z => rfl) (by have := HW.out.len s2 hs2; omega))
            clear hLj hTj
            go_wp2
            go_ret
            obtain ⟨D', f1, f2⟩ := FIN.out
            exact ⟨by simp, D', f1, f2⟩
end Go.Proofs.Ytiopkjmkfmffiaa
