import Derived.Test.YtljafmkehfnldaaDY
namespace Go.Proofs.Ytljafmkehfnldaa
set_option linter.unusedVariables false
set_option linter.unusedSimpArgs false
open Go.RowKit
theorem Pj.copy {w : World} {p : Pv} (h : Pj w p) : Calls Try.prog 34 #[p.vl] w fun e w' => ∃ q : Pv, e = .returned q.vl ∧ Pj w' q ∧ Pn w w' q ∧ q.pg = p.pg ∧ Below w.heap.size w w' :=
  (CopyPage_pn w p h.i h.d (by have := h.n; omega) h.s).mono fun _ _ ⟨q, e, hn, hl, hg, hb⟩ => ⟨q, e, ⟨hn.pi (by have := h.n; omega), by rw [show q.data = p.data from congrArg Pg.data hg]; exact h.d, by rw [hl]; exact h.n, fun r hr => by
    have e1 : q.items.map Iv.it = p.items.map Iv.it := congrArg Pg.items hg
    have hm : r.it ∈ p.items.map Iv.it := by rw [← e1]; exact List.mem_map_of_mem hr
    obtain ⟨x, hx, ex⟩ := List.mem_map.1 hm
    have k := h.s x hx
    have a1 : x.key = r.key := congrArg It.key ex
    have a2 : x.val = r.val := congrArg It.val ex
    rw [← a1, ← a2]
    exact k⟩, hn, hg, hb⟩
theorem Pi.keys8 {w : World} {p : Pv} (h : Pi w p) : ∀ x ∈ p.pg.items, B8 x.key := fun x hx => (h.b8.1 x hx).1
theorem fit_sml {l r : Pg} {s : List Nat} (h : Fit l r s) : (∀ x ∈ l.items, x.key.length ≤ 24 ∧ x.val.length ≤ 3840) ∧ (∀ x ∈ r.items, x.key.length ≤ 24 ∧ x.val.length ≤ 3840) ∧ l.data = [] ∧ r.data = [] ∧ l.items.length ≤ 8 ∧ r.items.length ≤ 8 := by
  have h3 : l.kind ≠ 3 := h.2.2.2.2.1
  have h3r : r.kind ≠ 3 := by rw [← h.2.2.1]; exact h3
  have v : ∀ p : Pg, p.check = 0 → p.kind ≠ 3 → ∀ x ∈ p.items, x.key.length ≤ 24 ∧ x.val.length ≤ 3840 := fun p hc hk x hx => by
    have f := (Pg.check_zero.1 hc).fits hx
    have hq := okp_of hk hc
    refine ⟨f.key, ?_⟩
    rcases hq.k with k1 | k1
    · have a := f.leaf k1
      by_cases hz : x.size ≤ 32
      · have := (a.2.2.1 hz).1; omega
      · rw [(a.2.2.2 (by omega)).1]; simp
    · rw [(f.index k1).1]; simp
  have o1 := okp_of h3 h.1
  have o2 := okp_of h3r h.2.1
  exact ⟨v l h.1 h3, v r h.2.1 h3r, o1.d, o2.d, o1.ln, o2.ln⟩
theorem Pn.smlF {P : Pv} {L : Pg} (e : P.pg = L) (h : ∀ x ∈ L.items, x.key.length ≤ 24 ∧ x.val.length ≤ 3840) : Sml P.items := fun r hr => by
  have hm : r.it ∈ L.items := by rw [← e]; exact List.mem_map_of_mem hr
  have := h _ hm
  exact ⟨Nat.le_trans this.1 (by decide), Nat.le_trans this.2 (by decide)⟩
theorem Pn.datF {P : Pv} {L : Pg} (e : P.pg = L) (h : L.data = []) : P.data.length ≤ 140737488355264 := by
  have : P.data = L.data := congrArg Pg.data e
  rw [this, h]; simp
theorem spl_short {p : Pg} (h : p.items.length ≠ 8) : spl p = Hv.none := by
  unfold spl
  rw [if_neg (fun k => h k.2)]
theorem spl_items {p : Pg} : (spl p).l.items.length ≤ 8 ∧ (spl p).r.items.length ≤ 8 := by
  unfold spl
  split
  · rename_i h
    have h8 := h.2
    unfold prt
    split
    · simp [Pg.wi, h8]
    · split
      · simp [Pg.wi, h8]
      · simp [Hv.none, Pg.zero]
  · simp [Hv.none, Pg.zero]
set_option maxHeartbeats 16000000 in
set_option maxRecDepth 8000 in
theorem nodeHalves_any (w : World) (p : Pv) (hP : Pj w p) :
    Calls Try.prog 8 #[p.vl] w fun e w' => e = .returned (.bool true) ∧ Below w.heap.size w w' := by
  have PP := hide fun (W : World) (hb : Below w.heap.size w W) => hP.keep hb
  have CP := hide fun (W : World) (hb : Below w.heap.size w W) => (hP.keep hb).copy
  have K1 := hide fun (W : World) (hb : Below w.heap.size w W) => iCheck_any W p (hP.i.keep hb)
  have H8 := hide hP.i.keys8
  have A0 := hide (al w (.cells p.cs 25))
  have X0 := hide (heap_alloc_new w (.cells p.cs 25))
  obtain ⟨m, hm⟩ : ∃ m, p.items.length = m := ⟨_, rfl⟩
  have HM := hide hm
  have HMP : Hid (p.pg.items.length = m) := by show _ = _; rw [← hm]; exact List.length_map _
  have ZS : Hid (m ≠ 8 → (spl p.pg).ok = false) := fun h => by rw [spl_short (by rw [HMP.out]; exact h)]; rfl
  have ZI := hide (spl_items (p := p.pg))
  have HV : Hid (p.pg.check = 0 → p.kind ≠ 3 → m = 8 → (spl p.pg).ok = true ∧ Fit (spl p.pg).l (spl p.pg).r (spl p.pg).s ∧ (spl p.pg).l.items.length = 4 ∧ joi (spl p.pg).l (spl p.pg).r (spl p.pg).s = (p.pg, true)) := fun h1 h2 h3 => halves (okp_of h2 h1) (by rw [HMP.out]; exact h3) H8.out
  unfold Pv.vl at CP K1 ⊢
  simp only [Pv.cs] at CP K1 A0 X0 ⊢
  rw [hm] at X0 A0 ⊢
  simp only [hm] at CP K1
  clear hP hm H8
  obtain ⟨c, hc⟩ : ∃ c, p.pg.check = c := ⟨_, rfl⟩
  rw [hc] at K1 HV
  clear hc
  by_cases h1 : c = 0
  · subst h1
    by_cases h2 : p.kind = 3
    · have h2b : (p.kind == 3) = true := by simpa using h2
      clear h2
      by_cases h8 : m = 8
      · subst h8
        go_enter Try.func8, Try.ntmps8
        go_wp2_with fail
        refine (works_any _).mono ?_
        rintro _ w1 ⟨rfl, b1⟩
        have X1 := hide (blk_keep X0.out b1)
        have B1 := hide (bt A0.out b1)
        obtain ⟨x0, x1, x2, x3, x4⟩ := cells5 X1.out
        clear b1 X0 A0
        go_wp2_with fail
        refine (CP.out _ B1.out).mono ?_
        rintro _ w2 ⟨q0, rfl, pj, pn, g0, b2⟩
        have SP := hide (Split_any w2 q0 pj.i pj.d pj.s)
        rw [g0] at SP
        unfold Pv.vl at SP
        simp only [Pv.cs] at SP
        have X2 := hide (blk_keep X1.out b2)
        have B2 := hide (bt B1.out b2)
        clear pj pn g0 b2 CP X1 B1 x0 x1 x2 x3 x4
        generalize spl p.pg = Z at *
        go_wp2_with fail
        refine SP.out.mono ?_
        rintro _ w3 ⟨p1, p2, aS, cS, rfl, hH, e1, e2⟩
        have U3 := hide (two_blocks w3 (.cells #[.int .i64 p1.kind, .int .i64 p1.level, .slice p1.aI p1.items.length p1.cI, .slice p1.aD p1.data.length p1.cD, .int .i64 p1.next] 25) (.cells #[.int .i64 p2.kind, .int .i64 p2.level, .slice p2.aI p2.items.length p2.cI, .slice p2.aD p2.data.length p2.cD, .int .i64 p2.next] 25) (Below.refl _ _))
        have H3 := hide (hH.keep U3.out.2.2.1)
        have X3 := hide (blk_keep X2.out (bt hH.b U3.out.2.2.1))
        have B3 := hide (bt B2.out (bt hH.b U3.out.2.2.1))
        have E1 := hide e1
        have E2 := hide e2
        clear hH e1 e2 SP X2 B2
        obtain ⟨x0, x1, x2, x3, x4⟩ := cells5 X3.out
        go_wp2_with fail
        refine (K1.out _ B3.out).mono ?_
        rintro _ w4 ⟨rfl, b4⟩
        have X4 := hide (blk_keep X3.out b4)
        have B4 := hide (bt B3.out b4)
        have H4 := hide (H3.out.keep b4)
        have BP1 := hide (blk_keep U3.out.1 b4)
        have BP2 := hide (blk_keep U3.out.2.1 b4)
        clear b4 x0 x1 x2 x3 x4 U3 X3 H3 B3 K1
        obtain ⟨x0, x1, x2, x3, x4⟩ := cells5 X4.out
        go_wp2_with fail
        all_goals
          go_ret
          exact ⟨by first | rfl | simp_all, B4.out⟩
      · have h8b : ((m : Int) == 8) = false := by simp; omega
        have h8c : ((m : Int) != 8) = true := by simp; omega
        have zo := ZS.out h8
        go_enter Try.func8, Try.ntmps8
        go_wp2_with fail
        refine (works_any _).mono ?_
        rintro _ w1 ⟨rfl, b1⟩
        have X1 := hide (blk_keep X0.out b1)
        have B1 := hide (bt A0.out b1)
        obtain ⟨x0, x1, x2, x3, x4⟩ := cells5 X1.out
        clear b1 X0 A0
        go_wp2_with fail
        refine (CP.out _ B1.out).mono ?_
        rintro _ w2 ⟨q0, rfl, pj, pn, g0, b2⟩
        have SP := hide (Split_any w2 q0 pj.i pj.d pj.s)
        rw [g0] at SP
        unfold Pv.vl at SP
        simp only [Pv.cs] at SP
        have X2 := hide (blk_keep X1.out b2)
        have B2 := hide (bt B1.out b2)
        clear pj pn g0 b2 CP X1 B1 x0 x1 x2 x3 x4
        generalize spl p.pg = Z at *
        go_wp2_with fail
        refine SP.out.mono ?_
        rintro _ w3 ⟨p1, p2, aS, cS, rfl, hH, e1, e2⟩
        have U3 := hide (two_blocks w3 (.cells #[.int .i64 p1.kind, .int .i64 p1.level, .slice p1.aI p1.items.length p1.cI, .slice p1.aD p1.data.length p1.cD, .int .i64 p1.next] 25) (.cells #[.int .i64 p2.kind, .int .i64 p2.level, .slice p2.aI p2.items.length p2.cI, .slice p2.aD p2.data.length p2.cD, .int .i64 p2.next] 25) (Below.refl _ _))
        have H3 := hide (hH.keep U3.out.2.2.1)
        have X3 := hide (blk_keep X2.out (bt hH.b U3.out.2.2.1))
        have B3 := hide (bt B2.out (bt hH.b U3.out.2.2.1))
        have E1 := hide e1
        have E2 := hide e2
        clear hH e1 e2 SP X2 B2
        obtain ⟨x0, x1, x2, x3, x4⟩ := cells5 X3.out
        go_wp2_with fail
        refine (K1.out _ B3.out).mono ?_
        rintro _ w4 ⟨rfl, b4⟩
        have X4 := hide (blk_keep X3.out b4)
        have B4 := hide (bt B3.out b4)
        have H4 := hide (H3.out.keep b4)
        have BP1 := hide (blk_keep U3.out.1 b4)
        have BP2 := hide (blk_keep U3.out.2.1 b4)
        clear b4 x0 x1 x2 x3 x4 U3 X3 H3 B3 K1
        obtain ⟨x0, x1, x2, x3, x4⟩ := cells5 X4.out
        go_wp2_with fail
        all_goals
          go_ret
          exact ⟨by first | rfl | simp_all, B4.out⟩
    · have h2b : (p.kind == 3) = false := by simpa using h2
      by_cases h8 : m = 8
      · subst h8
        obtain ⟨z1, z2, z3, z4⟩ := HV.out rfl h2 rfl
        have Z2 := hide z2
        have Z3 := hide z3
        have Z4 := hide z4
        clear z2 z3 z4 HV ZS
        go_enter Try.func8, Try.ntmps8
        go_wp2_with fail
        refine (works_any _).mono ?_
        rintro _ w1 ⟨rfl, b1⟩
        have X1 := hide (blk_keep X0.out b1)
        have B1 := hide (bt A0.out b1)
        obtain ⟨x0, x1, x2, x3, x4⟩ := cells5 X1.out
        clear b1 X0 A0
        go_wp2_with fail
        refine (CP.out _ B1.out).mono ?_
        rintro _ w2 ⟨q0, rfl, pj, pn, g0, b2⟩
        have SP := hide (Split_any w2 q0 pj.i pj.d pj.s)
        rw [g0] at SP
        unfold Pv.vl at SP
        simp only [Pv.cs] at SP
        have X2 := hide (blk_keep X1.out b2)
        have B2 := hide (bt B1.out b2)
        clear pj pn g0 b2 CP X1 B1 x0 x1 x2 x3 x4
        generalize spl p.pg = Z at *
        go_wp2_with fail
        refine SP.out.mono ?_
        rintro _ w3 ⟨p1, p2, aS, cS, rfl, hH, e1, e2⟩
        have U3 := hide (two_blocks w3 (.cells #[.int .i64 p1.kind, .int .i64 p1.level, .slice p1.aI p1.items.length p1.cI, .slice p1.aD p1.data.length p1.cD, .int .i64 p1.next] 25) (.cells #[.int .i64 p2.kind, .int .i64 p2.level, .slice p2.aI p2.items.length p2.cI, .slice p2.aD p2.data.length p2.cD, .int .i64 p2.next] 25) (Below.refl _ _))
        have H3 := hide (hH.keep U3.out.2.2.1)
        have X3 := hide (blk_keep X2.out (bt hH.b U3.out.2.2.1))
        have B3 := hide (bt B2.out (bt hH.b U3.out.2.2.1))
        have E1 := hide e1
        have E2 := hide e2
        clear hH e1 e2 SP X2 B2
        obtain ⟨x0, x1, x2, x3, x4⟩ := cells5 X3.out
        go_wp2_with fail
        refine (K1.out _ B3.out).mono ?_
        rintro _ w4 ⟨rfl, b4⟩
        have X4 := hide (blk_keep X3.out b4)
        have B4 := hide (bt B3.out b4)
        have H4 := hide (H3.out.keep b4)
        have BP1 := hide (blk_keep U3.out.1 b4)
        have BP2 := hide (blk_keep U3.out.2.1 b4)
        clear b4 x0 x1 x2 x3 x4 U3 X3 H3 B3 K1
        obtain ⟨x0, x1, x2, x3, x4⟩ := cells5 X4.out
        have FZ := hide (fit_sml Z2.out)
        have L1 : Hid (p1.items.length = 4) := (Pn.lenL E1.out).trans Z3.out
        have PI1 := hide (H4.out.p1.piL E1.out ZI.out.1)
        have PI2 := hide (H4.out.p2.piL E2.out ZI.out.2)
        have SB := hide (H4.out.sp.1.bs H4.out.sp.2)
        have SL : Hid (Z.s.length ≤ 140737488355264) := Nat.le_trans Z2.out.2.2.2.2.2.2.1 (by decide)
        have FT := hide (fits_any w4 p1 p2 aS cS Z.s PI1.out PI2.out SB.out (Nat.le_trans SL.out (by decide)))
        rw [E1.out, E2.out] at FT
        unfold Pv.vl at FT
        simp only [Pv.cs] at FT
        obtain ⟨v0, v1, v2, v3, v4⟩ := cells5 BP1.out
        obtain ⟨u0, u1, u2, u3, u4⟩ := cells5 BP2.out
        go_wp2_with fail
        refine FT.out.mono ?_
        rintro _ w5 ⟨b, rfl, hb, b5⟩
        obtain rfl : b = true := hb.2 Z2.out
        have X5 := hide (blk_keep X4.out b5)
        have B5 := hide (bt B4.out b5)
        have H5 := hide (H4.out.keep b5)
        have B45 := hide b5
        have BP15 := hide (blk_keep BP1.out b5)
        have BP25 := hide (blk_keep BP2.out b5)
        clear hb b5 x0 x1 x2 x3 x4 v0 v1 v2 v3 v4 u0 u1 u2 u3 u4 FT X4 BP1 BP2
        have v2 := (cells5 BP15.out).2.2.1
        rw [L1.out] at v2
        have JN := hide (Join_any w5 p1 p2 aS cS Z.s (PI1.out.keep B45.out) (PI2.out.keep B45.out) (SB.out.keep B45.out) H5.out.sp.1.r.cap SL.out (Pn.datF E1.out FZ.out.2.2.1) (Pn.smlF E1.out FZ.out.1) (Pn.smlF E2.out FZ.out.2.1))
        rw [E1.out, E2.out, Z4.out] at JN
        unfold Pv.vl at JN
        simp only [Pv.cs] at JN
        obtain ⟨v0, v1, v2', v3, v4⟩ := cells5 BP15.out
        obtain ⟨u0, u1, u2, u3, u4⟩ := cells5 BP25.out
        rw [L1.out] at JN
        clear v2'
        go_wp2_with fail
        refine JN.out.mono ?_
        rintro _ w6 ⟨qj, rfl, pj, gj, b6⟩
        have A6 := hide (al w6 (.cells #[.int .i64 qj.kind, .int .i64 qj.level, .slice qj.aI qj.items.length qj.cI, .slice qj.aD qj.data.length qj.cD, .int .i64 qj.next] 25))
        have XJ := hide (heap_alloc_new w6 (.cells #[.int .i64 qj.kind, .int .i64 qj.level, .slice qj.aI qj.items.length qj.cI, .slice qj.aD qj.data.length qj.cD, .int .i64 qj.next] 25))
        have X6 := hide (blk_keep X5.out (bt b6 A6.out))
        have B6 := hide (bt B5.out (bt b6 A6.out))
        have LJ : Hid (qj.items.length = 8) := (Pn.lenL gj).trans HMP.out
        have EQ := hide (EqPage_same (w6.alloc (.cells #[.int .i64 qj.kind, .int .i64 qj.level, .slice qj.aI qj.items.length qj.cI, .slice qj.aD qj.data.length qj.cD, .int .i64 qj.next] 25)) p qj ((PP.out _ B6.out).i) ((pj.pi (by rw [LJ.out]; decide)).keep A6.out) gj.symm)
        unfold Pv.vl at EQ
        simp only [Pv.cs, HM.out] at EQ
        clear pj gj b6 v0 v1 v2 v3 v4 u0 u1 u2 u3 u4 JN
        obtain ⟨x0, x1, x2, x3, x4⟩ := cells5 X6.out
        obtain ⟨y0, y1, y2, y3, y4⟩ := cells5 XJ.out
        go_wp2_with fail
        refine EQ.out.mono ?_
        rintro _ w8 ⟨rfl, b8⟩
        have B8 := hide (bt B6.out b8)
        clear b8 x0 x1 x2 x3 x4 y0 y1 y2 y3 y4
        go_wp2_with fail
        go_ret
        exact ⟨rfl, B8.out⟩
      · have h8b : ((m : Int) == 8) = false := by simp; omega
        have h8c : ((m : Int) != 8) = true := by simp; omega
        have zo := ZS.out h8
        go_enter Try.func8, Try.ntmps8
        go_wp2_with fail
        refine (works_any _).mono ?_
        rintro _ w1 ⟨rfl, b1⟩
        have X1 := hide (blk_keep X0.out b1)
        have B1 := hide (bt A0.out b1)
        obtain ⟨x0, x1, x2, x3, x4⟩ := cells5 X1.out
        clear b1 X0 A0
        go_wp2_with fail
        refine (CP.out _ B1.out).mono ?_
        rintro _ w2 ⟨q0, rfl, pj, pn, g0, b2⟩
        have SP := hide (Split_any w2 q0 pj.i pj.d pj.s)
        rw [g0] at SP
        unfold Pv.vl at SP
        simp only [Pv.cs] at SP
        have X2 := hide (blk_keep X1.out b2)
        have B2 := hide (bt B1.out b2)
        clear pj pn g0 b2 CP X1 B1 x0 x1 x2 x3 x4
        generalize spl p.pg = Z at *
        go_wp2_with fail
        refine SP.out.mono ?_
        rintro _ w3 ⟨p1, p2, aS, cS, rfl, hH, e1, e2⟩
        have U3 := hide (two_blocks w3 (.cells #[.int .i64 p1.kind, .int .i64 p1.level, .slice p1.aI p1.items.length p1.cI, .slice p1.aD p1.data.length p1.cD, .int .i64 p1.next] 25) (.cells #[.int .i64 p2.kind, .int .i64 p2.level, .slice p2.aI p2.items.length p2.cI, .slice p2.aD p2.data.length p2.cD, .int .i64 p2.next] 25) (Below.refl _ _))
        have H3 := hide (hH.keep U3.out.2.2.1)
        have X3 := hide (blk_keep X2.out (bt hH.b U3.out.2.2.1))
        have B3 := hide (bt B2.out (bt hH.b U3.out.2.2.1))
        have E1 := hide e1
        have E2 := hide e2
        clear hH e1 e2 SP X2 B2
        obtain ⟨x0, x1, x2, x3, x4⟩ := cells5 X3.out
        go_wp2_with fail
        refine (K1.out _ B3.out).mono ?_
        rintro _ w4 ⟨rfl, b4⟩
        have X4 := hide (blk_keep X3.out b4)
        have B4 := hide (bt B3.out b4)
        have H4 := hide (H3.out.keep b4)
        have BP1 := hide (blk_keep U3.out.1 b4)
        have BP2 := hide (blk_keep U3.out.2.1 b4)
        clear b4 x0 x1 x2 x3 x4 U3 X3 H3 B3 K1
        obtain ⟨x0, x1, x2, x3, x4⟩ := cells5 X4.out
        go_wp2_with fail
        all_goals
          go_ret
          exact ⟨by first | rfl | simp_all, B4.out⟩
  · have h1b : ((c : Int) != 0) = true := by simp; omega
    by_cases h8 : m = 8
    · subst h8
      go_enter Try.func8, Try.ntmps8
      go_wp2_with fail
      refine (works_any _).mono ?_
      rintro _ w1 ⟨rfl, b1⟩
      have X1 := hide (blk_keep X0.out b1)
      have B1 := hide (bt A0.out b1)
      obtain ⟨x0, x1, x2, x3, x4⟩ := cells5 X1.out
      clear b1 X0 A0
      go_wp2_with fail
      refine (CP.out _ B1.out).mono ?_
      rintro _ w2 ⟨q0, rfl, pj, pn, g0, b2⟩
      have SP := hide (Split_any w2 q0 pj.i pj.d pj.s)
      rw [g0] at SP
      unfold Pv.vl at SP
      simp only [Pv.cs] at SP
      have X2 := hide (blk_keep X1.out b2)
      have B2 := hide (bt B1.out b2)
      clear pj pn g0 b2 CP X1 B1 x0 x1 x2 x3 x4
      generalize spl p.pg = Z at *
      go_wp2_with fail
      refine SP.out.mono ?_
      rintro _ w3 ⟨p1, p2, aS, cS, rfl, hH, e1, e2⟩
      have U3 := hide (two_blocks w3 (.cells #[.int .i64 p1.kind, .int .i64 p1.level, .slice p1.aI p1.items.length p1.cI, .slice p1.aD p1.data.length p1.cD, .int .i64 p1.next] 25) (.cells #[.int .i64 p2.kind, .int .i64 p2.level, .slice p2.aI p2.items.length p2.cI, .slice p2.aD p2.data.length p2.cD, .int .i64 p2.next] 25) (Below.refl _ _))
      have H3 := hide (hH.keep U3.out.2.2.1)
      have X3 := hide (blk_keep X2.out (bt hH.b U3.out.2.2.1))
      have B3 := hide (bt B2.out (bt hH.b U3.out.2.2.1))
      have E1 := hide e1
      have E2 := hide e2
      clear hH e1 e2 SP X2 B2
      obtain ⟨x0, x1, x2, x3, x4⟩ := cells5 X3.out
      go_wp2_with fail
      refine (K1.out _ B3.out).mono ?_
      rintro _ w4 ⟨rfl, b4⟩
      have X4 := hide (blk_keep X3.out b4)
      have B4 := hide (bt B3.out b4)
      have H4 := hide (H3.out.keep b4)
      have BP1 := hide (blk_keep U3.out.1 b4)
      have BP2 := hide (blk_keep U3.out.2.1 b4)
      clear b4 x0 x1 x2 x3 x4 U3 X3 H3 B3 K1
      obtain ⟨x0, x1, x2, x3, x4⟩ := cells5 X4.out
      go_wp2_with fail
      all_goals
        go_ret
        exact ⟨by first | rfl | simp_all, B4.out⟩
    · have h8b : ((m : Int) == 8) = false := by simp; omega
      have h8c : ((m : Int) != 8) = true := by simp; omega
      have zo := ZS.out h8
      go_enter Try.func8, Try.ntmps8
      go_wp2_with fail
      refine (works_any _).mono ?_
      rintro _ w1 ⟨rfl, b1⟩
      have X1 := hide (blk_keep X0.out b1)
      have B1 := hide (bt A0.out b1)
      obtain ⟨x0, x1, x2, x3, x4⟩ := cells5 X1.out
      clear b1 X0 A0
      go_wp2_with fail
      refine (CP.out _ B1.out).mono ?_
      rintro _ w2 ⟨q0, rfl, pj, pn, g0, b2⟩
      have SP := hide (Split_any w2 q0 pj.i pj.d pj.s)
      rw [g0] at SP
      unfold Pv.vl at SP
      simp only [Pv.cs] at SP
      have X2 := hide (blk_keep X1.out b2)
      have B2 := hide (bt B1.out b2)
      clear pj pn g0 b2 CP X1 B1 x0 x1 x2 x3 x4
      generalize spl p.pg = Z at *
      go_wp2_with fail
      refine SP.out.mono ?_
      rintro _ w3 ⟨p1, p2, aS, cS, rfl, hH, e1, e2⟩
      have U3 := hide (two_blocks w3 (.cells #[.int .i64 p1.kind, .int .i64 p1.level, .slice p1.aI p1.items.length p1.cI, .slice p1.aD p1.data.length p1.cD, .int .i64 p1.next] 25) (.cells #[.int .i64 p2.kind, .int .i64 p2.level, .slice p2.aI p2.items.length p2.cI, .slice p2.aD p2.data.length p2.cD, .int .i64 p2.next] 25) (Below.refl _ _))
      have H3 := hide (hH.keep U3.out.2.2.1)
      have X3 := hide (blk_keep X2.out (bt hH.b U3.out.2.2.1))
      have B3 := hide (bt B2.out (bt hH.b U3.out.2.2.1))
      have E1 := hide e1
      have E2 := hide e2
      clear hH e1 e2 SP X2 B2
      obtain ⟨x0, x1, x2, x3, x4⟩ := cells5 X3.out
      go_wp2_with fail
      refine (K1.out _ B3.out).mono ?_
      rintro _ w4 ⟨rfl, b4⟩
      have X4 := hide (blk_keep X3.out b4)
      have B4 := hide (bt B3.out b4)
      have H4 := hide (H3.out.keep b4)
      have BP1 := hide (blk_keep U3.out.1 b4)
      have BP2 := hide (blk_keep U3.out.2.1 b4)
      clear b4 x0 x1 x2 x3 x4 U3 X3 H3 B3 K1
      obtain ⟨x0, x1, x2, x3, x4⟩ := cells5 X4.out
      go_wp2_with fail
      all_goals
        go_ret
        exact ⟨by first | rfl | simp_all, B4.out⟩
end Go.Proofs.Ytljafmkehfnldaa
