import Derived.Test.YtmfelkncomfipaaDYD
namespace Go.Proofs.Ytmfelkncomfipaa
set_option linter.unusedVariables false
set_option linter.unusedSimpArgs false
open Go.RowKit
/-- two pages and what lies between, to read -/
structure Tq (W : World) (l r : Pv) (a : Option Addr) (s : List Nat) : Prop where
  pl : Pi W l
  pr : Pi W r
  b : Bs W a s
  sl : Sml l.items
  sr : Sml r.items
  hs : s.length ≤ 140737488355264
  n1 : l.items.length ≤ 100
  n2 : r.items.length ≤ 100
  h1 : 1 ≤ r.items.length
theorem Tq.keep {W W' : World} {l r : Pv} {a : Option Addr} {s : List Nat} (h : Tq W l r a s) (hb : Below W.heap.size W W') : Tq W' l r a s := ⟨h.pl.keep hb, h.pr.keep hb, h.b.keep hb, h.sl, h.sr, h.hs, h.n1, h.n2, h.h1⟩
theorem map_at {M N : List Iv} (h : M.map Iv.it = N.map Iv.it) (k : Nat) : (M.getD k Iv.zero).it = (N.getD k Iv.zero).it := by
  rw [← it_getD, ← it_getD, h]
set_option maxHeartbeats 16000000 in
set_option maxRecDepth 8000 in
theorem lsame_any (w : World) (a b c d : Pv) (aS aT : Option Addr) (cS cT : Nat) (s t : List Nat) (h1 : Tq w a b aS s) (h2 : Tq w c d aT t) (he : jnd a.pg b.pg s = jnd c.pg d.pg t) :
    Calls Try.prog 21 #[a.vl, b.vl, .slice aS s.length cS, c.vl, d.vl, .slice aT t.length cT] w fun e w' => e = .returned (.bool true) ∧ Below w.heap.size w w' := by
  have A1 := hide fun (W : World) (hb : Below w.heap.size w W) => lall_any W a b aS cS s (h1.keep hb).pl (h1.keep hb).pr (h1.keep hb).b h1.sl h1.sr h1.hs h1.n1 h1.n2 h1.h1
  have A2 := hide fun (W : World) (hb : Below w.heap.size w W) => lall_any W c d aT cT t (h2.keep hb).pl (h2.keep hb).pr (h2.keep hb).b h2.sl h2.sr h2.hs h2.n1 h2.n2 h2.h1
  have N1 := h1.n1
  have N2 := h1.n2
  rw [← he] at A2
  generalize jnd a.pg b.pg s = J at *
  clear h1 h2 he
  unfold Pv.vl at A1 A2 ⊢
  simp only [Pv.cs] at A1 A2 ⊢
  have U := hide (four_blocks w (.cells #[.int .i64 a.kind, .int .i64 a.level, .slice a.aI a.items.length a.cI, .slice a.aD a.data.length a.cD, .int .i64 a.next] 25) (.cells #[.int .i64 b.kind, .int .i64 b.level, .slice b.aI b.items.length b.cI, .slice b.aD b.data.length b.cD, .int .i64 b.next] 25) (.cells #[.int .i64 c.kind, .int .i64 c.level, .slice c.aI c.items.length c.cI, .slice c.aD c.data.length c.cD, .int .i64 c.next] 25) (.cells #[.int .i64 d.kind, .int .i64 d.level, .slice d.aI d.items.length d.cI, .slice d.aD d.data.length d.cD, .int .i64 d.next] 25))
  go_enter Try.func21, Try.ntmps21
  go_upto_region 1 with fail
  have X1 := hide U.out.1
  have X2 := hide U.out.2.1
  have X3 := hide U.out.2.2.1
  have X4 := hide U.out.2.2.2.1
  have B4 := hide U.out.2.2.2.2
  clear U
  generalize ((((w.alloc (.cells #[.int .i64 a.kind, .int .i64 a.level, .slice a.aI a.items.length a.cI, .slice a.aD a.data.length a.cD, .int .i64 a.next] 25)).alloc (.cells #[.int .i64 b.kind, .int .i64 b.level, .slice b.aI b.items.length b.cI, .slice b.aD b.data.length b.cD, .int .i64 b.next] 25)).alloc (.cells #[.int .i64 c.kind, .int .i64 c.level, .slice c.aI c.items.length c.cI, .slice c.aD c.data.length c.cD, .int .i64 c.next] 25)).alloc (.cells #[.int .i64 d.kind, .int .i64 d.level, .slice d.aI d.items.length d.cI, .slice d.aD d.data.length d.cD, .int .i64 d.next] 25)) = w4 at *
  obtain ⟨p0, p1, p2, p3, p4⟩ := cells5 X1.out
  obtain ⟨q0, q1, q2, q3, q4⟩ := cells5 X2.out
  go_wp2_with fail
  refine (A1.out _ B4.out).mono ?_
  rintro _ w5 ⟨am, n, cm, M, rfl, hn, hn', hJ, hM, hb⟩
  have HM := hide hn
  have HN : Hid (n ≤ 200) := by show _ ≤ _; omega
  have JM := hide hJ
  have EM := hide hM
  have B5 := hide (bt B4.out hb)
  have X35 := hide (blk_keep X3.out hb)
  have X45 := hide (blk_keep X4.out hb)
  clear hn hn' hJ hM hb p0 p1 p2 p3 p4 q0 q1 q2 q3 q4 A1 X1 X2 X3 X4
  obtain ⟨p0, p1, p2, p3, p4⟩ := cells5 X35.out
  obtain ⟨q0, q1, q2, q3, q4⟩ := cells5 X45.out
  go_wp2_with fail
  refine (A2.out _ B5.out).mono ?_
  rintro _ w6 ⟨an, n2, cn, N, rfl, hn, hn', hJ, hM, hb⟩
  have EMN := hide (EM.out.trans hM.symm)
  have L2 : M.length = N.length := by have := congrArg List.length EMN.out; simpa using this
  obtain rfl : n2 = n := by rw [hn, ← L2]; exact HM.out.symm
  have JN := hide hJ
  have JM6 := hide (JM.out.keep hb)
  have B6 := hide (bt B5.out hb)
  have HNN := hide (hn)
  clear hn hn' hJ hM hb p0 p1 p2 p3 p4 q0 q1 q2 q3 q4 A2 X35 X45 EM JM L2 B5 B4
  go_wp2_with fail
  go_loopw [15] (fun i wx => ∃ k : Nat, k ≤ n2 ∧ i = .int .i64 k ∧ Below w6.heap.size w6 wx) (fun i _ => n2 - (intOf i).toNat)
  case atStart => exact ⟨0, Nat.zero_le _, rfl, Below.refl _ _⟩
  case round =>
    obtain ⟨k, hk, rfl, hb⟩ := hrel
    have BB := hide hb
    clear hb
    by_cases hlt : k < n2
    · have hlti : (k : Int) < (n2 : Int) := by omega
      have h200 := HN.out
      have g1 : k < M.length := by rw [← HM.out]; exact hlt
      have g2 : k < N.length := by rw [← HNN.out]; exact hlt
      have E0 := hide (map_at EMN.out k)
      have IX := hide fun (W : World) (h : Below w6.heap.size w6 W) => (JM6.out.1 _ (getD_memR g1)).keep h
      have IY := hide fun (W : World) (h : Below w6.heap.size w6 W) => (JN.out.1 _ (getD_memR g2)).keep h
      obtain ⟨b1, o1, rfl, r1⟩ := JM6.out.at g1
      obtain ⟨b2, o2, rfl, r2⟩ := JN.out.at g2
      have SS := hide fun (W : World) (h : Below w6.heap.size w6 W) => And.intro (range4 (range_below r1 h)) (range4 (range_below r2 h))
      have hg1 : ((b1 : Nat), o1) = (b1, o1) := rfl
      clear r1 r2 hg1
      have EQ := hide fun (W : World) (h : Below w6.heap.size w6 W) => EqItem_same W (M.getD k Iv.zero) (N.getD k Iv.zero) (IX.out W h) (IY.out W h) E0.out
      generalize M.getD k Iv.zero = v1 at *
      generalize N.getD k Iv.zero = v2 at *
      obtain ⟨xK, xcK, xkey, xV, xcV, xval, xch, xsz⟩ := v1
      obtain ⟨yK, ycK, ykey, yV, ycV, yval, ych, ysz⟩ := v2
      simp only [Iv.vl, Iv.cs] at EQ SS
      clear IX IY E0 g1 g2
      go_upto_region 8 with fail
      have D8 := hide (bt BB.out (dr2 wr))
      refine wp_region_held_drew (S := fun W => (W.cell? ⟨b1, o1 + k * 4, none⟩ = some (.slice xK xkey.length xcK) ∧ W.cell? ⟨b1, o1 + k * 4 + 1, none⟩ = some (.slice xV xval.length xcV) ∧ W.cell? ⟨b1, o1 + k * 4 + 2, none⟩ = some (.int .i64 xch) ∧ W.cell? ⟨b1, o1 + k * 4 + 3, none⟩ = some (.int .i64 xsz)) ∧ (W.cell? ⟨b2, o2 + k * 4, none⟩ = some (.slice yK ykey.length ycK) ∧ W.cell? ⟨b2, o2 + k * 4 + 1, none⟩ = some (.slice yV yval.length ycV) ∧ W.cell? ⟨b2, o2 + k * 4 + 2, none⟩ = some (.int .i64 ych) ∧ W.cell? ⟨b2, o2 + k * 4 + 3, none⟩ = some (.int .i64 ysz))) (by kernel_rfl) (SS.out _ D8.out) (fun hHeld => ?_)
      refine wpAnyH_take (i := 0) (v := ?vas0) rfl (by kernel_rfl) (by kernel_rfl) (by kernel_rfl) (fun _ _ _ h => h) (Or.inl ⟨by rfl, ?hys0⟩) (by assumption) ?ras0
      case hys0 => (intro wq hSw; (try dsimp only at hSw); obtain ⟨⟨e0, e1, e2, e3⟩, f0, f1, f2, f3⟩ := hSw; go_simp <;> with_reducible rfl)
      try simp only [Act.put, List.getElem_toArray, List.getElem_cons_zero, List.setIfInBounds_toArray, List.set_cons_zero, List.set_cons_succ]
      refine wpAnyH_take (i := 1) (v := ?vas1) rfl (by kernel_rfl) (by kernel_rfl) (by kernel_rfl) (fun _ _ _ h => h) (Or.inl ⟨by rfl, ?hys1⟩) (by assumption) ?ras1
      case hys1 => (intro wq hSw; (try dsimp only at hSw); obtain ⟨⟨e0, e1, e2, e3⟩, f0, f1, f2, f3⟩ := hSw; go_simp <;> with_reducible rfl)
      try simp only [Act.put, List.getElem_toArray, List.getElem_cons_zero, List.getElem_cons_succ, List.setIfInBounds_toArray, List.set_cons_zero, List.set_cons_succ]
      refine wpAnyH_take (i := 2) (v := ?vas2) rfl (by kernel_rfl) (by kernel_rfl) (by kernel_rfl) (fun _ _ _ h => h) (Or.inl ⟨by rfl, ?hys2⟩) (by assumption) ?ras2
      case hys2 => (intro wq hSw; (try dsimp only at hSw); obtain ⟨⟨e0, e1, e2, e3⟩, f0, f1, f2, f3⟩ := hSw; go_simp <;> with_reducible rfl)
      try simp only [Act.put, List.getElem_toArray, List.getElem_cons_zero, List.getElem_cons_succ, List.setIfInBounds_toArray, List.set_cons_zero, List.set_cons_succ]
      refine wpAnyH_take (i := 3) (v := ?vas3) rfl (by kernel_rfl) (by kernel_rfl) (by kernel_rfl) (fun _ _ _ h => h) (Or.inl ⟨by rfl, ?hys3⟩) (by assumption) ?ras3
      case hys3 => (intro wq hSw; (try dsimp only at hSw); obtain ⟨⟨e0, e1, e2, e3⟩, f0, f1, f2, f3⟩ := hSw; go_simp <;> with_reducible rfl)
      try simp only [Act.put, List.getElem_toArray, List.getElem_cons_zero, List.getElem_cons_succ, List.setIfInBounds_toArray, List.set_cons_zero, List.set_cons_succ]
      refine wpAnyH_take (i := 4) (v := ?vas4) rfl (by kernel_rfl) (by kernel_rfl) (by kernel_rfl) (fun _ _ _ h => h) (Or.inl ⟨by rfl, ?hys4⟩) (by assumption) ?ras4
      case hys4 => (intro wq hSw; (try dsimp only at hSw); obtain ⟨⟨e0, e1, e2, e3⟩, f0, f1, f2, f3⟩ := hSw; go_simp <;> with_reducible rfl)
      try simp only [Act.put, List.getElem_toArray, List.getElem_cons_zero, List.getElem_cons_succ, List.setIfInBounds_toArray, List.set_cons_zero, List.set_cons_succ]
      refine wpAnyH_take (i := 5) (v := ?vas5) rfl (by kernel_rfl) (by kernel_rfl) (by kernel_rfl) (fun _ _ _ h => h) (Or.inl ⟨by rfl, ?hys5⟩) (by assumption) ?ras5
      case hys5 => (intro wq hSw; (try dsimp only at hSw); obtain ⟨⟨e0, e1, e2, e3⟩, f0, f1, f2, f3⟩ := hSw; go_simp <;> with_reducible rfl)
      try simp only [Act.put, List.getElem_toArray, List.getElem_cons_zero, List.getElem_cons_succ, List.setIfInBounds_toArray, List.set_cons_zero, List.set_cons_succ]
      refine wpAnyH_take (i := 6) (v := ?vas6) rfl (by kernel_rfl) (by kernel_rfl) (by kernel_rfl) (fun _ _ _ h => h) (Or.inl ⟨by rfl, ?hys6⟩) (by assumption) ?ras6
      case hys6 => (intro wq hSw; (try dsimp only at hSw); obtain ⟨⟨e0, e1, e2, e3⟩, f0, f1, f2, f3⟩ := hSw; go_simp <;> with_reducible rfl)
      try simp only [Act.put, List.getElem_toArray, List.getElem_cons_zero, List.getElem_cons_succ, List.setIfInBounds_toArray, List.set_cons_zero, List.set_cons_succ]
      refine wpAnyH_take (i := 7) (v := ?vas7) rfl (by kernel_rfl) (by kernel_rfl) (by kernel_rfl) (fun _ _ _ h => h) (Or.inl ⟨by rfl, ?hys7⟩) (by assumption) ?ras7
      case hys7 => (intro wq hSw; (try dsimp only at hSw); obtain ⟨⟨e0, e1, e2, e3⟩, f0, f1, f2, f3⟩ := hSw; go_simp <;> with_reducible rfl)
      try simp only [Act.put, List.getElem_toArray, List.getElem_cons_zero, List.getElem_cons_succ, List.setIfInBounds_toArray, List.set_cons_zero, List.set_cons_succ]
      refine wpAnyH_ready (rs := [8]) (by kernel_rfl) (by simp) ?_
      refine AllReadyH.cons rfl (fun K hK => ?_) AllReadyH.nil
      go_simp
      refine (EQ.out _ D8.out).mono ?_
      rintro _ w9 ⟨rfl, hb9⟩
      have B9 := hide (bt D8.out hb9)
      clear hb9
      go_wp2_with fail
      refine hK.out _ _ (SS.out _ B9.out) (fun hHeld => ?_)
      clear hK K
      try simp only [Act.put, List.getElem_toArray, List.getElem_cons_zero, List.getElem_cons_succ, List.setIfInBounds_toArray, List.set_cons_zero, List.set_cons_succ]
      refine wpAnyH_take (i := 9) (v := ?vas9) rfl (by kernel_rfl) (by kernel_rfl) (by kernel_rfl) (fun _ _ _ h => h) (Or.inl ⟨by rfl, ?hys9⟩) (by assumption) ?ras9
      case hys9 => (intro wq hSw; (try dsimp only at hSw); obtain ⟨⟨e0, e1, e2, e3⟩, f0, f1, f2, f3⟩ := hSw; go_simp <;> with_reducible rfl)
      try simp only [Act.put, List.getElem_toArray, List.getElem_cons_zero, List.getElem_cons_succ, List.setIfInBounds_toArray, List.set_cons_zero, List.set_cons_succ]
      refine wpAnyH_done (by kernel_rfl) ?_ _
      clear hHeld SS EQ
      go_wp2_with fail
      go_roundw
      case rel => exact ⟨k + 1, by omega, by first | (go_num; done) | exact congrArg (Value.int IntKind.i64) (by omega), B9.out⟩
      case measure => first | exact meas_up _ _ _ rfl hlt | (simp [intOf]; omega)
    · obtain rfl : k = n2 := by omega
      have BE := hide (bt B6.out BB.out)
      go_wp2_with fail
      go_ret
      exact ⟨rfl, BE.out⟩
end Go.Proofs.Ytmfelkncomfipaa
