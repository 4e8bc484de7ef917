import Derived.Test.YtnnbedpgikljaaaUYSX
import Derived.BigQuiet
import Derived.BigRegion
import Derived.Deep.RegionHeld3
namespace Go.Proofs.Ytnnbedpgikljaaa
set_option linter.unusedVariables false
open Go.RowKit

/-! ### renew: kind 9 -/
set_option maxHeartbeats 8000000 in
set_option maxRecDepth 20000 in
theorem renew9_any (Z : Nat → Prop) (w : World) (X m : Nat) (D : Dat) (o : Opv) (hk : o.k = 9) (hW : Wk Z w X m D) (ho : o.ok w Z) (hm : m ≤ 1954687338620) :
    Calls Try.prog 28 #[pt X, .agg o.cs.toArray] w (Did Z w X m) := by
  obtain ⟨k, who, tt, lo, hi, n, aL, L, cL⟩ := o
  obtain ⟨s, hs, hS1⟩ := slot_any w who ho.who
  obtain ⟨s2, hs2, hS2⟩ := slot_any w tt ho.tt
  have S1 := hide hS1
  have S2 := hide hS2
  have HO := hide ho
  clear hS1 hS2
  obtain rfl : k = 9 := hk
  unfold Opv.cs pt
  simp only
  have lL := ho.len
  obtain ⟨nL, hnL⟩ : ∃ nL : Nat, nL = L.length := ⟨_, rfl⟩
  rw [← hnL] at lL ⊢
  have NLL := hide hnL
  clear hnL ho
  obtain ⟨n2, hn2⟩ : ∃ n2 : Nat, n2 = nL + 2 := ⟨_, rfl⟩
  have N2 := hide hn2
  have e2 : (nL : Int) + 2 = (n2 : Int) := by omega
  have ln2 : n2 ≤ 8796093022208 := by omega
  have ln3 : nL < n2 := by omega
  have ln4 : nL + 1 < n2 := by omega
  clear hn2
  obtain ⟨W0, hW0⟩ : ∃ W0, w.alloc (.cells #[.int .i64 9, .int .i64 who, .int .i64 tt, .int .i64 lo, .int .i64 hi, .int .i64 n, .slice aL nL cL] 41) = W0 := ⟨_, rfl⟩
  have b0 : Below w.heap.size w W0 := by rw [← hW0]; exact al _ _
  have box : W0.heap[w.heap.size]? = some (.cells #[.int .i64 9, .int .i64 who, .int .i64 tt, .int .i64 lo, .int .i64 hi, .int .i64 n, .slice aL nL cL] 41 (0, 0)) := by rw [← hW0]; exact World.alloc_heap_new w _
  have q1 : W0.cell? ⟨w.heap.size, 1, none⟩ = some (.int .i64 who) := by rw [cell_of_row _ _ _ _ _ _ box]; rfl
  have q2 : W0.cell? ⟨w.heap.size, 2, none⟩ = some (.int .i64 tt) := by rw [cell_of_row _ _ _ _ _ _ box]; rfl
  have BOX := hide box
  have B0 := hide b0
  have HW := hide hW
  clear hW box b0
  go_enter Try.func28, Try.ntmps28
  go_wp2_with fail
  try rw [hW0]
  clear hW0
  obtain ⟨bx, hbx⟩ : ∃ bx : Nat, w.heap.size = bx := ⟨_, rfl⟩
  rw [hbx] at q1 q2 BOX ⊢
  have BX := hide hbx
  clear hbx
  go_quiet (first | exact Calls.quiet_of_same (S1.out _) | exact Calls.quiet_of_same (S2.out _))
  obtain ⟨W1, hW1⟩ : ∃ W1, W0.drewN nq = W1 := ⟨_, rfl⟩
  have b1 : Below w.heap.size w W1 := by rw [← hW1]; exact bt B0.out (drews _ _)
  have BOX := hide (show W1.heap[bx]? = some (.cells #[.int .i64 9, .int .i64 who, .int .i64 tt, .int .i64 lo, .int .i64 hi, .int .i64 n, .slice aL nL cL] 41 (0, 0)) by rw [← hW1]; exact BOX.out)
  rw [hW1]
  clear hW1 q1 q2
  have q6 : W1.cell? ⟨bx, 6, none⟩ = some (.slice aL nL cL) := by rw [cell_of_row _ _ _ _ _ _ BOX.out]; rfl
  have hmk := make_run n2 n2 (Nat.le_refl _) ln2 W1
  have hV0 := made_vw W1 n2 ln2
  have a1 := al W1 (.cells (madeCells (rcs Rn.zero) (n2 * 2)) 47)
  obtain ⟨Wa, hWa⟩ : ∃ Wa, W1.alloc (.cells (madeCells (rcs Rn.zero) (n2 * 2)) 47) = Wa := ⟨_, rfl⟩
  rw [hWa] at hmk hV0 a1
  have q6a := (a1.cell (p := ⟨bx, 6, none⟩) (block_lt_of_cell q6)).trans q6
  have hmk2 := make_list n2 ln2 Wa
  have hJ0 := made_list Wa n2 ln2
  have a2 := al Wa (.cells (madeCells #[.int .u32 0] (n2 * 1)) 25)
  obtain ⟨Wb, hWb⟩ : ∃ Wb, Wa.alloc (.cells (madeCells #[.int .u32 0] (n2 * 1)) 25) = Wb := ⟨_, rfl⟩
  rw [hWb] at hmk2 hJ0 a2
  obtain ⟨Wd, hWd⟩ : ∃ Wd, Wb.alloc (.cells #[.slice none 0 0] 39) = Wd := ⟨_, rfl⟩
  have a3 : Below Wb.heap.size Wb Wd := by rw [← hWd]; exact al _ _
  have hN0 : Rt Wd Wb.heap.size none 0 [] := ⟨by rw [← hWd]; exact World.alloc_heap_new Wb _, Rf.Vw.nil _, Can.nil, by simp, by simp⟩
  have LD := hide (show Ld Wd bx W1.heap.size Wa.heap.size Wb.heap.size #[.int .i64 9, .int .i64 who, .int .i64 tt, .int .i64 lo, .int .i64 hi, .int .i64 n, .slice aL nL cL] n2 (inK L n2 0) (loK L n2 0) none 0 [] from
    ⟨((bt a1 (bt a2 a3)).block bx (Array.getElem?_eq_some_iff.1 BOX.out).1).trans BOX.out, (show Vw Wa (some ⟨W1.heap.size, 0, none⟩) n2 (inK L n2 0) by simpa [inK] using hV0).keep (bt a2 a3), by simp [inK], (show Gw 25 1 Wb (some ⟨Wa.heap.size, 0, none⟩) n2 n2 (kc (loK L n2 0)) by simpa [loK] using hJ0).keep a3, hN0⟩)
  have LO := hide (show w.heap.size ≤ W1.heap.size ∧ w.heap.size ≤ Wa.heap.size ∧ w.heap.size ≤ Wb.heap.size ∧ w.heap.size ≤ bx from ⟨b1.size, Nat.le_trans b1.size a1.size, Nat.le_trans (Nat.le_trans b1.size a1.size) a2.size, by rw [BX.out]; exact Nat.le_refl _⟩)
  have BD := hide (show Below w.heap.size w Wd from bt b1 (bt a1 (bt a2 a3)))
  clear hV0 hJ0 a1 a2 a3 hN0 b1
  go_wp2_with fail
  clear hmk hmk2 hWa hWb hWd q6 q6a
  obtain ⟨I, hI⟩ : ∃ I, W1.heap.size = I := ⟨_, rfl⟩
  obtain ⟨J, hJ⟩ : ∃ J, Wa.heap.size = J := ⟨_, rfl⟩
  obtain ⟨N, hN⟩ : ∃ N, Wb.heap.size = N := ⟨_, rfl⟩
  rw [hI, hJ, hN] at LD LO ⊢
  clear hI hJ hN
  obtain ⟨OB, hOB⟩ : ∃ OB : Array Value, OB = #[.int .i64 9, .int .i64 who, .int .i64 tt, .int .i64 lo, .int .i64 hi, .int .i64 n, .slice aL nL cL] := ⟨_, rfl⟩
  rw [← hOB] at LD
  have HOB := hide hOB
  have b6 := hide (show ∀ V a cap IN LZ Q, Ld V bx I J N OB n2 IN LZ a cap Q → V.cell? ⟨bx, 6, none⟩ = some (.slice aL nL cL) ∧ V.cell? ⟨bx, 0, none⟩ = some (.int .i64 9) from fun V a cap IN LZ Q h => by
    have hb := h.box
    rw [HOB.out] at hb
    rw [cell_of_row _ _ _ _ _ _ hb, cell_of_row _ _ _ _ _ _ hb]
    exact ⟨rfl, rfl⟩)
  clear hOB BOX
  go_loopw [10] (fun i wx => ∃ k : Nat, k ≤ nL ∧ i = .int .i64 k ∧ Ld wx bx I J N OB n2 (inK L n2 k) (loK L n2 k) none 0 [] ∧ Below w.heap.size w wx) (fun i _ => nL - (intOf i).toNat)
  case atStart => exact ⟨0, Nat.zero_le _, rfl, LD.out, BD.out⟩
  case round =>
    clear LD BD
    obtain ⟨q, hq, rfl, hLd, hbw⟩ := hrel
    have LDq := hide hLd
    have BDq := hide hbw
    obtain ⟨c6, c0⟩ := b6.out _ _ _ _ _ _ hLd
    by_cases hlt : q < nL
    · have hqL : q < L.length := by rw [← NLL.out]; exact hlt
      have hq2 : q < n2 := by omega
      have x1 : (q : Int) < (n2 : Int) := by omega
      obtain ⟨b1, o1, rfl, d1, d2⟩ := (HO.out.ir.keep hbw).at hqL
      have i0 := hLd.inr.cell (i := q) (by rw [hLd.inl]; exact hq2)
      have f0 := hLd.inr.thaw (q * 2)
      have IN1 := hide (inK_next hqL (m := n2) (by rw [← NLL.out]; omega))
      have LO1 := hide (loK_next hqL (m := n2) (by rw [← NLL.out]; omega))
      have hcv : cv (L.getD q Rn.zero) = (IntKind.u32.wrap (L.getD q Rn.zero).1, IntKind.u32.wrap (L.getD q Rn.zero).2) := rfl
      have hnb := HO.out.bnd _ (getD_mem hqL)
      generalize L.getD q Rn.zero = r at *
      obtain ⟨x, y⟩ := r
      simp only at d1 d2 hcv hnb
      obtain ⟨lo', hlo⟩ : ∃ z, IntKind.u32.wrap x = z := ⟨_, rfl⟩
      obtain ⟨hi', hhi⟩ : ∃ z, IntKind.u32.wrap y = z := ⟨_, rfl⟩
      rw [hlo, hhi] at hcv
      skip
      rw [hcv] at IN1 LO1
      simp only at LO1
      have o1' := hLd.inr.one (i := q) (by rw [hLd.inl]; exact hq2) (.int .u32 lo')
      obtain ⟨o1c, o1f⟩ := o1'
      have L1 := hLd.setI hq2 (lo', hi')
      rw [IN1.out] at L1
      simp only at L1
      have i1 := L1.inr.cell (i := q) (by rw [L1.inl]; exact hq2)
      have iE : (inK L n2 (q + 1)).getD q Rn.zero = (lo', hi') := by
        rw [← IN1.out, List.getD_eq_getElem?_getD, List.getElem?_set_self (by rw [hLd.inl]; exact hq2)]
        rfl
      rw [iE] at i1
      simp only at i1
      obtain ⟨i1a, i1b⟩ := i1
      have lz : (kc (loK L n2 q))[q]? = some (.int .u32 ((loK L n2 q).getD q 0)) := kc_get _ (by have := hLd.los.length; rw [kc_length] at this; omega)
      have j1 := L1.los.cell lz
      have j2 := L1.los.thaw q
      have L2 := hide (show Ld _ bx I J N OB n2 (inK L n2 (q + 1)) (loK L n2 (q + 1)) none 0 [] by rw [← LO1.out]; exact L1.setJ hq2 lo')
      have BI := hide (LO.out)
      obtain ⟨i0a, i0b⟩ := i0
      clear hLd hbw L1 iE lz hcv hnb
      go_wp2
      go_region
      all_goals
        go_wp2
        go_roundw
        (case rel => exact ⟨q + 1, by omega, by simp, L2.out.keep (drews _ 1), bt (((BDq.out.setCell (p := ⟨I, q * 2, none⟩) BI.out.1 _).setCell (p := ⟨I, q * 2 + 1, none⟩) BI.out.1 _).setCell (p := ⟨J, q, none⟩) BI.out.2.1 _) (drews _ 1)⟩)
        (case measure => simp [intOf]; omega)
    · obtain rfl : q = nL := by omega
      obtain ⟨q1, hq1⟩ : ∃ q1 : Nat, q1 = q + 1 := ⟨_, rfl⟩
      rw [← hq1] at ln4
      have Q1 := hide hq1
      obtain ⟨V0, hV0⟩ : ∃ V0, wr.alloc (.cells #[.int .u32 77, .int .u32 78] 47) = V0 := ⟨_, rfl⟩
      have av : Below wr.heap.size wr V0 := by rw [← hV0]; exact al _ _
      have L0 := hLd.keep av
      have rb := World.alloc_heap_new wr (.cells #[.int .u32 77, .int .u32 78] 47)
      rw [hV0] at rb
      have rm0 : V0.cell? ⟨wr.heap.size, 0, none⟩ = some (.int .u32 77) := by rw [cell_of_row _ _ _ _ _ _ rb]; rfl
      have rm1 : V0.cell? ⟨wr.heap.size, 1, none⟩ = some (.int .u32 78) := by rw [cell_of_row _ _ _ _ _ _ rb]; rfl
      have hIr : I < wr.heap.size := hLd.inr.lt rfl
      have hJr : J < wr.heap.size := hLd.los.lt rfl
      have hNr : N < wr.heap.size := hLd.nxt.lt
      have wrL := hide (Nat.le_trans (Nat.le_refl _) hbw.size)
      /- the four stores -/
      have K0 := b6.out _ _ _ _ _ _ L0
      have s0 := L0.inr.cell (i := q) (by rw [L0.inl]; exact ln3)
      have s0f := L0.inr.thaw (q * 2)
      have s0o := L0.inr.one (i := q) (by rw [L0.inl]; exact ln3) (.int .u32 77)
      have L1 := L0.setI ln3 room
      simp only [room] at L1
      have s1 := L1.inr.cell (i := q1) (by rw [L1.inl]; exact ln4)
      have s1f := L1.inr.thaw (q1 * 2)
      have s1o := L1.inr.one (i := q1) (by rw [L1.inl]; exact ln4) (.int .u32 77)
      have L2 := L1.setI ln4 room
      simp only [room] at L2
      have lzq : ∀ i, i < n2 → (kc (loK L n2 q))[i]? = some (.int .u32 ((loK L n2 q).getD i 0)) := fun i hi => kc_get _ (by have := hLd.los.length; rw [kc_length] at this; omega)
      have s2 := L2.los.cell (lzq q ln3)
      have s2f := L2.los.thaw q
      have L3 := L2.setJ ln3 77
      have s3 : _ := L3.los.cell (kc_get _ (i := q1) (by have := L3.los.length; rw [kc_length] at this; omega))
      have s3f := L3.los.thaw q1
      have L4 := L3.setJ ln4 77
      obtain ⟨s0a, s0b⟩ := s0
      obtain ⟨s1a, s1b⟩ := s1
      obtain ⟨s0c, s0d⟩ := s0o
      obtain ⟨s1c, s1d⟩ := s1o
      have y1 : (q : Int) + 1 = (q1 : Int) := by omega
      have y2 : (q : Int) < (n2 : Int) := by omega
      have y3 : (q1 : Int) < (n2 : Int) := by omega
      have ef : n2 = L.length + 2 := by rw [N2.out, NLL.out]
      have LF := hide (show Ld _ bx I J N OB n2 (inF L) (loF L) none 0 [] by
        have t := L4
        rw [← inK_full L, ← loK_full L, ← ef, ← NLL.out, ← Q1.out]
        exact t)
      obtain ⟨K0a, K0b⟩ := K0
      have L0' := hide L0
      have BV := hide (bt hbw av)
      obtain ⟨rmb, hrmb⟩ : ∃ rmb, wr.heap.size = rmb := ⟨_, rfl⟩
      rw [hrmb] at rm0 rm1 hIr hJr hNr wrL
      have RN := hide (show rmb ≠ N ∧ rmb ≠ I ∧ rmb ≠ J from ⟨by omega, by omega, by omega⟩)
      clear hNr
      clear hq1 L0 L1 L2 L3 L4 hLd ef lzq rb av hbw LDq BDq
      go_wp2_with fail
      try rw [hV0]
      try rw [hrmb]
      clear hV0 hrmb c6 c0
      have SS := hide (show ∀ V, But (fun k => k = I ∨ k = J) V0 V → V.cell? ⟨bx, 6, none⟩ = some (.slice aL q cL) ∧ V.cell? ⟨rmb, 0, none⟩ = some (.int .u32 77) ∧ V.cell? ⟨rmb, 1, none⟩ = some (.int .u32 78) from fun V hB => ⟨(hB.cell (p := ⟨bx, 6, none⟩) (block_lt_of_cell K0a) (fun h => by
        have h' : bx = I ∨ bx = J := h
        obtain ⟨c1, e1⟩ := L0'.out.inr.blk
        obtain ⟨c2, e2⟩ := L0'.out.los.blk
        rcases h' with h' | h'
        · exact blk_ne L0'.out.box e1 (by decide) h'
        · exact blk_ne L0'.out.box e2 (by decide) h')).trans K0a, (hB.cell (p := ⟨rmb, 0, none⟩) (block_lt_of_cell rm0) (fun h => by have h' : rmb = I ∨ rmb = J := h; omega)).trans rm0, (hB.cell (p := ⟨rmb, 1, none⟩) (block_lt_of_cell rm1) (fun h => by have h' : rmb = I ∨ rmb = J := h; omega)).trans rm1⟩)
      have B1 : But (fun k => k = I ∨ k = J) V0 ((V0.setCell ⟨I, q * 2, none⟩ (.int .u32 77)).setCell ⟨I, q * 2 + 1, none⟩ (.int .u32 78)) := ((But.refl (fun k => k = I ∨ k = J) V0).setCell (p := ⟨I, q * 2, none⟩) (fun _ => .inl rfl) _).setCell (p := ⟨I, q * 2 + 1, none⟩) (fun _ => .inl rfl) _
      have B2 := (B1.setCell (p := ⟨I, q1 * 2, none⟩) (fun _ => .inl rfl) (.int .u32 77)).setCell (p := ⟨I, q1 * 2 + 1, none⟩) (fun _ => .inl rfl) (.int .u32 78)
      have B3 := B2.setCell (p := ⟨J, q, none⟩) (fun _ => .inr rfl) (.int .u32 77)
      have B4 := B3.setCell (p := ⟨J, q1, none⟩) (fun _ => .inr rfl) (.int .u32 77)
      have U0 := SS.out _ (But.refl (fun k => k = I ∨ k = J) V0).drew
      have U1 := SS.out _ B1.drew
      have U2 := SS.out _ B2.drew
      have U3 := SS.out _ B3.drew
      have U4 := SS.out _ B4.drew
      have B4' := hide B4
      have y4 : IntKind.i64.wrap (q1 : Int) = (q1 : Int) := wrapI (by omega) (by omega)
      have y5 : wrap64 (q1 : Int) = (q1 : Int) := by unfold wrap64; omega
      have y6 : (0 : Int) ≤ (q : Int) := Int.natCast_nonneg q
      have y7 : (0 : Int) ≤ (q1 : Int) := Int.natCast_nonneg q1
      have RMM := hide (show V0.cell? ⟨rmb, 0, none⟩ = some (.int .u32 77) ∧ V0.cell? ⟨rmb, 1, none⟩ = some (.int .u32 78) from ⟨rm0, rm1⟩)
      clear B1 B2 B3 B4 K0a rm0 rm1
      go_region_held3 (fun V => V.cell? ⟨bx, 6, none⟩ = some (.slice aL q cL) ∧ V.cell? ⟨rmb, 0, none⟩ = some (.int .u32 77) ∧ V.cell? ⟨rmb, 1, none⟩ = some (.int .u32 78))
        (first | with_reducible exact U0 | with_reducible exact U1 | with_reducible exact U2 | with_reducible exact U3 | with_reducible exact U4)
        (first | fail)
      obtain ⟨V, hV⟩ : ∃ V, (((((((V0.setCell ⟨I, q * 2, none⟩ (.int .u32 77)).setCell ⟨I, q * 2 + 1, none⟩ (.int .u32 78)).setCell ⟨I, q1 * 2, none⟩ (.int .u32 77)).setCell ⟨I, q1 * 2 + 1, none⟩ (.int .u32 78)).setCell ⟨J, q, none⟩ (.int .u32 77)).setCell ⟨J, q1, none⟩ (.int .u32 77)).drew) = V := ⟨_, rfl⟩
      have LV := hide (show Ld V bx I J N OB n2 (inF L) (loF L) none 0 [] by rw [← hV]; exact LF.out.keep (drews _ 1))
      have RV := hide (show V.cell? ⟨rmb, 0, none⟩ = some (.int .u32 77) ∧ V.cell? ⟨rmb, 1, none⟩ = some (.int .u32 78) by rw [← hV]; exact U4.2)
      have WV := hide (show Below w.heap.size w V by
        rw [← hV]
        refine bt ?_ (drews _ 1)
        refine (((((BV.out.setCell (p := ⟨I, q * 2, none⟩) LO.out.1 _).setCell (p := ⟨I, q * 2 + 1, none⟩) LO.out.1 _).setCell (p := ⟨I, q1 * 2, none⟩) LO.out.1 _).setCell (p := ⟨I, q1 * 2 + 1, none⟩) LO.out.1 _).setCell (p := ⟨J, q, none⟩) LO.out.2.1 _).setCell (p := ⟨J, q1, none⟩) LO.out.2.1 _)
      have IJ := hide (show I < V.heap.size ∧ J < V.heap.size ∧ N < V.heap.size ∧ bx < V.heap.size ∧ rmb < V.heap.size from ⟨LV.out.inr.lt rfl, LV.out.los.lt rfl, LV.out.nxt.lt, (Array.getElem?_eq_some_iff.1 LV.out.box).1, block_lt_of_cell RV.out.1⟩)
      rw [hV]
      clear hV U0 U1 U2 U3 U4 y1 y2 y3 y4 y5 y6 y7 s0a s0b s0c s0d s0f s1a s1b s1c s1d s1f s2 s2f s3 s3f LF SS B4' RMM BV L0' K0b hIr hJr e2
      obtain ⟨K6, K0⟩ := b6.out _ _ _ _ _ _ LV.out
      obtain ⟨c, hc⟩ := HW.out.wc
      have lX := hc.lt
      have HC := hide (hc.keep WV.out)
      clear hc
      obtain ⟨VH, hVH⟩ : ∃ VH, V.heap.size = VH := ⟨_, rfl⟩
      have vH := WV.out.size
      rw [hVH] at IJ vH
      have HVH := hide hVH
      clear hVH
      have rmw : w.heap.size ≤ rmb := wrL.out
      have sI : (s : Int) < 3 := by omega
      have sI0 : (0 : Int) ≤ (s : Int) := by omega
      have s2I : (s2 : Int) < 3 := by omega
      have s2I0 : (0 : Int) ≤ (s2 : Int) := by omega
      have LZ' := hide (show ∀ wx, But (fun k => k = X) w wx → Rf.Vs wx aL L from fun wx hB => by
        by_cases h0 : L = []
        · exact .inl h0
        · refine HO.out.ir.but hB (fun x hx e => ?_)
          have hz := HO.out.z x hx h0
          obtain ⟨c, hc⟩ := HW.out.wc
          have h1 := (hc.cz _ hz).2
          rw [e, hc.cX] at h1
          omega)
      go_wp2_with fail
      have VI := hide (show Vs V (some ⟨I, 0, none⟩) (L.map cv) by
        have t := LV.out.inr
        unfold inF at t
        rcases t.front with t | t
        · exact t.vs
        · cases t)
      have C1 := hide fun (V' : World) (hb : Below V.heap.size V V') => Of_any V' (some ⟨I, 0, none⟩) n2 (L.map cv) (VI.out.keep hb) (by rw [List.length_map, ← NLL.out]; omega) (fun h => by cases h) (fun r hr => by
        obtain ⟨y, _, rfl⟩ := List.mem_map.1 hr
        exact cv_nm y)
      rw [List.length_map, ← NLL.out] at C1
      have T1 := hide (show Below V.heap.size V V.drew from drews V 1)
      have y2 : (q : Int) ≤ (n2 : Int) := by omega
      have k6 : V.drew.cell? ⟨bx, 6, none⟩ = some (.slice aL q cL) := K6
      go_region_law
        (first
          | (refine step_call rfl 8 _ _ rfl (enters_of Try.func8 (by kernel_rfl) rfl) _ (by first | (simp [Act.eval]; done) | simp [Act.eval, Act.put]) (C1.out _ T1.out) ?_; rintro e w8 ⟨b', a', cap', R, rfl, z1, z2, z3⟩; refine ⟨_, rfl, ?_⟩; have T2 := hide (bt T1.out z1.w); have x1 := ((HC.out.keep T2.out).cellP hs).1; have x2 := (HC.out.keep T2.out).free s; have k6 := (z1.w.cell (p := ⟨bx, 6, none⟩) (block_lt_of_cell k6)).trans k6; have TL := hide (show Tl w w8 X VH D.cells b' a' cap' R rmb from ⟨(But.ofBelow WV.out).andBelow T2.out, (HC.out.keep T2.out).blk, z1.st, by have := z1.b; have := HVH.out; have := T1.out.size; omega, fun x hx => by have := z1.a x hx; have := HVH.out; have := T1.out.size; omega, (T2.out.cell (p := ⟨rmb, 0, none⟩) (block_lt_of_cell RV.out.1)).trans RV.out.1, (T2.out.cell (p := ⟨rmb, 1, none⟩) (block_lt_of_cell RV.out.2)).trans RV.out.2⟩); have L8 := hide (LV.out.keep T2.out); have Z2 := hide z2; have Z3 := hide z3; unfold pt at x1; clear z1 z2 z3))
      all_goals
        have TL9 := hide (TL.out.store lX rmw vH s (pt b'))
        have L9 := hide (L8.out.apart TL.out.hx (by decide) (by decide) (by decide) (by decide) (by decide) (set_but w8 X s (pt b')))
        unfold pt at TL9 L9
        obtain ⟨W9, hW9⟩ : ∃ W9, w8.setCell ⟨X, s, none⟩ (.pointer (some ⟨b', 0, none⟩)) = W9 := ⟨_, rfl⟩
        rw [hW9] at TL9 L9
        go_wp2_with fail
        try rw [hW9]
        clear hW9 x1 x2 k6 K6 K0 TL L8
        go_loopw [12] (fun i wx => ∃ (k : Nat) (a2 : Option Addr) (cap2 : Nat) (Q : List Rn), k ≤ q ∧ i = .int .i64 k ∧ Ld wx bx I J N OB n2 (inF L) (loF L) a2 cap2 Q ∧ (∀ z, has Q z = has ((L.take k).map cv) z) ∧ Q.length ≤ k ∧ (∀ x, a2 = some x → w.heap.size ≤ x.block) ∧ Tl w wx X VH (D.cells.set s (.pointer (some ⟨b', 0, none⟩))) b' a' cap' R rmb) (fun i _ => q - (intOf i).toNat)
        case atStart => exact ⟨0, none, 0, [], Nat.zero_le _, rfl, L9.out, fun z => by rw [List.take_zero]; rfl, Nat.zero_le _, fun x hx => by (cases hx), TL9.out⟩
        case round =>
          clear L9 TL9
          obtain ⟨k, a2, cap2, Q, hk, rfl, hLd, hQ, hQl, hQn, hTl⟩ := hrel
          have LD := hide hLd
          have TLk := hide hTl
          have HQ := hide hQ
          obtain ⟨c6, c0⟩ := b6.out _ _ _ _ _ _ hLd
          clear hQ
          by_cases hlt : k < q
          · have hkL : k < L.length := by rw [← NLL.out]; exact hlt
            have hk2 : k < n2 := by omega
            have y2 : (k : Int) < (n2 : Int) := by omega
            have i0 := hLd.inr.cell (i := k) (by rw [hLd.inl]; exact hk2)
            rw [(inF_at L).1 k hkL] at i0
            have nm := cv_nm (L.getD k Rn.zero)
            have TK := hide (take_next L Rn.zero hkL)
            generalize hcr : cv (L.getD k Rn.zero) = r at *
            have HCR := hide hcr
            obtain ⟨lo', hi'⟩ := r
            simp only at i0 nm
            obtain ⟨i0a, i0b⟩ := i0
            have cvlo : IntKind.i64.wrap lo' = lo' := wrapI nm.1.n64.1 nm.1.n64.2
            have cvhi : IntKind.i64.wrap hi' = hi' := wrapI nm.2.n64.1 nm.2.n64.2
            have C2 := hide (rAdd_any wr.drew N a2 cap2 Q lo' hi' (hLd.nxt.keep (drews wr 1)) nm.1.n64 nm.2.n64 (by have := can_nm hLd.nxt.can (M := (L.take k).map cv) (fun r hr => by obtain ⟨y, _, rfl⟩ := List.mem_map.1 hr; exact cv_nm y) HQ.out; omega))
            have NM := hide nm
            clear hLd hTl nm hcr
            go_wp2_with fail
            go_region_law
              (first
                | (refine step_call rfl 11 _ _ rfl (enters_of Try.func11 (by kernel_rfl) rfl) _ (by first | (simp [Act.eval]; done) | simp [Act.eval, Act.put]) C2.out ?_; rintro e w5 ⟨a3, cap3, Q3, rfl, g1, g2, g3, g4, g5⟩; refine ⟨_, rfl, ?_⟩; have G := hide (show Ld w5 bx I J N OB n2 (inF L) (loF L) a3 cap3 Q3 ∧ Tl w w5 X VH (D.cells.set s (.pointer (some ⟨b', 0, none⟩))) b' a' cap' R rmb ∧ (∀ z, has Q3 z = (has Q z || (decide (lo' ≤ z) && decide (z ≤ hi')))) ∧ Q3.length ≤ Q.length + 1 ∧ (∀ x, a3 = some x → w.heap.size ≤ x.block) from ⟨(LD.out.keep (drews wr 1)).next g1 g5, (TLk.out.keep (drews wr 1)).locl lX LO.out.2.2.1 IJ.out.2.2.1 RN.out.1 g5, g2, g3, fun x hx => by rcases g4 x hx with ⟨y, hy, _⟩ | h; (cases hy); exact Nat.le_trans (TLk.out.bu.size) h⟩); clear g1 g2 g3 g4 g5))
            all_goals
              go_wp2
              go_roundw
              (case rel => exact ⟨k + 1, _, _, _, by omega, by simp, G.out.1, fun z => by rw [G.out.2.2.1 z, HQ.out z, TK.out, List.map_append, has_append, List.map_cons, HCR.out, has_cons]; simp [has_nil], by have := G.out.2.2.2.1; omega, G.out.2.2.2.2, G.out.2.1⟩)
              (case measure => simp [intOf]; omega)
          · obtain rfl : k = q := by omega
            have x26 := (show wr.cell? ⟨X, 3 + s, none⟩ = some (.pointer (some ⟨D.R s, 0, none⟩)) by
              rw [cell_of_row _ _ _ _ _ _ hTl.hx]
              match s, hs with
              | 0, _ => rfl
              | 1, _ => rfl
              | 2, _ => rfl)
            have f26 : wr.frozen? ⟨X, 3 + s, none⟩ = false := frozen_of_row _ _ _ _ _ hTl.hx
            have TA := hide (hTl.store lX rmw vH (3 + s) (pt N))
            have LA := hide (hLd.apart hTl.hx (by decide) (by decide) (by decide) (by decide) (by decide) (set_but wr X (3 + s) (pt N)))
            unfold pt at TA LA
            obtain ⟨WA, hWA⟩ : ∃ WA, wr.setCell ⟨X, 3 + s, none⟩ (.pointer (some ⟨N, 0, none⟩)) = WA := ⟨_, rfl⟩
            rw [hWA] at TA LA
            obtain ⟨a6, a0⟩ := b6.out _ _ _ _ _ _ LA.out
            have yy := inF_at L
            have zz := loF_at L
            rw [← NLL.out] at yy zz
            obtain ⟨_, in1, in2, inl⟩ := yy
            obtain ⟨_, lo1, lo2, lol⟩ := zz
            have in1c := LA.out.inr.cell (i := k) (by rw [LA.out.inl]; exact ln3)
            have in2c := LA.out.inr.cell (i := q1) (by rw [LA.out.inl]; exact ln4)
            have lo1c := LA.out.los.cell (kc_get _ (i := k) (by rw [lol]; omega))
            have lo2c := LA.out.los.cell (kc_get _ (i := q1) (by rw [lol, Q1.out]; omega))
            rw [Q1.out] at in2c lo2c
            rw [in1] at in1c
            rw [in2] at in2c
            rw [lo1] at lo1c
            rw [lo2] at lo2c
            rw [← Q1.out] at in2c lo2c
            simp only [room] at in1c in2c
            obtain ⟨in1a, in1b⟩ := in1c
            obtain ⟨in2a, in2b⟩ := in2c
            have rm0 := TA.out.r0
            have rm1 := TA.out.r1
            have y1 : (k : Int) + 1 = (q1 : Int) := by rw [Q1.out]; omega
            have y2 : (k : Int) < (n2 : Int) := by omega
            have y3 : (q1 : Int) < (n2 : Int) := by omega
            have y6 : (0 : Int) ≤ (k : Int) := Int.natCast_nonneg k
            have y7 : (0 : Int) ≤ (q1 : Int) := Int.natCast_nonneg q1
            have w1 : IntKind.i64.wrap (q1 : Int) = (q1 : Int) := wrapI (by omega) (by omega)
            have w2 : wrap64 (q1 : Int) = (q1 : Int) := by have := y3; unfold wrap64; omega
            have hqR := run_eqR
            have hgd : Try.prog.eqGuardType Try.prog.depth 47 = false := by kernel_rfl
            clear in1 in2 lo1 lo2 inl lol
            go_wp2_with fail
            try rw [hWA]
            clear hWA x26 f26
            go_quiet (fail)
            obtain ⟨WB, hWB⟩ : ∃ WB, WA.drewN nq = WB := ⟨_, rfl⟩
            have TB := hide (show Tl w WB X VH _ b' a' cap' R rmb by rw [← hWB]; exact TA.out.keep (drews WA nq))
            have LB := hide (show Ld WB bx I J N OB n2 (inE L 0) (loE L 0) a2 cap2 Q by rw [← hWB, inE_zero, loE_zero]; exact LA.out.keep (drews WA nq))
            rw [hWB]
            clear hWB TA LA a6 a0 in1a in1b in2a in2b lo1c lo2c rm0 rm1 y1 y2 y3 y6 y7 w1 w2 c6 c0
            go_wp2_with fail
            go_loopw [14, 15] (fun p i wx => ∃ j : Nat, j ≤ k ∧ p = .bool true ∧ i = .int .i64 j ∧ Ld wx bx I J N OB n2 (inE L j) (loE L j) a2 cap2 Q ∧ Tl w wx X VH ((D.cells.set s (.pointer (some ⟨b', 0, none⟩))).set (3 + s) (.pointer (some ⟨N, 0, none⟩))) b' a' cap' R rmb) (fun _ i _ => k - (intOf i).toNat)
            case atStart => exact ⟨0, Nat.zero_le _, rfl, rfl, LB.out, TB.out⟩
            case round =>
              clear TB LB
              obtain ⟨j, hj, rfl, rfl, hLj, hTj⟩ := hrel
              have LJ := hide hLj
              have TJ := hide hTj
              obtain ⟨c6, c0⟩ := b6.out _ _ _ _ _ _ hLj
              by_cases hjk : j < k
              · have hjL : j < L.length := by rw [← NLL.out]; exact hjk
                have hj2 : j < n2 := by omega
                have y2 : (j : Int) < (n2 : Int) := by omega
                obtain ⟨b1, o1, rfl, d1, d2⟩ := (LZ'.out _ hTj.bu).at hjL
                have e1 := inE_at hjL
                have e2 := loE_at hjL
                have i0 := hLj.inr.cell (i := j) (by rw [hLj.inl]; exact hj2)
                have l0 := hLj.los.cell (kc_get _ (i := j) (by have := hLj.los.length; rw [kc_length] at this; omega))
                rw [e1.1] at i0
                rw [e2.1] at l0
                have E1 := hide e1.2
                have E2 := hide e2.2
                have hnb := HO.out.bnd _ (getD_mem hjL)
                have hcv : cv (L.getD j Rn.zero) = (IntKind.u32.wrap (L.getD j Rn.zero).1, IntKind.u32.wrap (L.getD j Rn.zero).2) := rfl
                rw [hcv] at i0 l0
                clear e1 e2 hcv
                generalize L.getD j Rn.zero = r at *
                obtain ⟨x, y⟩ := r
                simp only at d1 d2 hnb i0 l0
                obtain ⟨lo', hlo⟩ : ∃ z, IntKind.u32.wrap x = z := ⟨_, rfl⟩
                obtain ⟨hi', hhi⟩ : ∃ z, IntKind.u32.wrap y = z := ⟨_, rfl⟩
                rw [hlo, hhi] at i0
                rw [hlo] at l0
                skip
                obtain ⟨i0a, i0b⟩ := i0
                have z1 : (lo' == lo') = true := by simp
                have r0 := hTj.r0
                have r1 := hTj.r1
                clear hLj hTj
                go_wp2_with fail
                go_quiet (fail)
                obtain ⟨W5, hW5⟩ : ∃ W5, wr.drewN nq = W5 := ⟨_, rfl⟩
                have L5 : Ld W5 bx I J N OB n2 (inE L j) (loE L j) a2 cap2 Q := by rw [← hW5]; exact LJ.out.keep (drews wr nq)
                have T5 := hide (show Tl w W5 X VH ((D.cells.set s (.pointer (some ⟨b', 0, none⟩))).set (3 + s) (.pointer (some ⟨N, 0, none⟩))) b' a' cap' R rmb by rw [← hW5]; exact TJ.out.keep (drews wr nq))
                rw [hW5]
                clear hW5 i0a i0b l0 r0 r1 d1 d2 c6 c0 LJ TJ
                have r0 := T5.out.r0
                have r1 := T5.out.r1
                have i5 := L5.inr.cell (i := j) (by rw [L5.inl]; exact hj2)
                have f5 := L5.inr.thaw (j * 2)
                have o5 := L5.inr.one (i := j) (by rw [L5.inl]; exact hj2) (.int .u32 77)
                have L6 := L5.setI hj2 room
                simp only [room] at L6
                have j6 := L6.los.cell (kc_get _ (i := j) (by have := L6.los.length; rw [kc_length] at this; omega))
                have g6 := L6.los.thaw j
                have L7 := L6.setJ hj2 77
                have L8 := hide (show Ld _ bx I J N OB n2 (inE L (j + 1)) (loE L (j + 1)) a2 cap2 Q by rw [← E1.out, ← E2.out]; exact L7)
                have B6 : But (fun k => k = I) W5 ((W5.setCell ⟨I, j * 2, none⟩ (.int .u32 77)).setCell ⟨I, j * 2 + 1, none⟩ (.int .u32 78)) := ((But.refl (fun k => k = I) W5).setCell (p := ⟨I, j * 2, none⟩) (fun _ => rfl) _).setCell (p := ⟨I, j * 2 + 1, none⟩) (fun _ => rfl) _
                have B7 := (But.refl (fun k => k = J) ((W5.setCell ⟨I, j * 2, none⟩ (.int .u32 77)).setCell ⟨I, j * 2 + 1, none⟩ (.int .u32 78))).setCell (p := ⟨J, j, none⟩) (fun _ => rfl) (.int .u32 77)
                have T8 := hide ((T5.out.locl lX LO.out.1 IJ.out.1 RN.out.2.1 B6).locl lX LO.out.2.1 IJ.out.2.1 RN.out.2.2 B7)
                obtain ⟨i5a, i5b⟩ := i5
                obtain ⟨o5a, o5b⟩ := o5
                clear L5 L6 L7 B6 B7
                go_wp2
                go_roundw
                case rel => exact ⟨j + 1, by omega, rfl, by simp, L8.out, T8.out⟩
                case measure => simp [intOf]; omega
              · obtain rfl : j = k := by omega
                have xs : wr.cell? ⟨X, s, none⟩ = some (.pointer (some ⟨b', 0, none⟩)) := by
                  rw [cell_of_row _ _ _ _ _ _ hTj.hx]
                  match s, hs with
                  | 0, _ => rfl
                  | 1, _ => rfl
                  | 2, _ => rfl
                have FIN := hide (HW.out.renew hs hTj.bu hTj.hx hTj.st hLj.nxt (by have := hTj.sb; omega) (fun x hx => by have := hTj.sa x hx; omega) LO.out.2.2.1 hQn (fun z => by rw [Z2.out z, HQ.out z, NLL.out, List.take_length]) (by have := Z3.out; omega))
                clear hLj hTj
                go_wp2
                go_ret
                obtain ⟨D', f1, f2⟩ := FIN.out
                exact ⟨by simp, D', f1, f2⟩
end Go.Proofs.Ytnnbedpgikljaaa
