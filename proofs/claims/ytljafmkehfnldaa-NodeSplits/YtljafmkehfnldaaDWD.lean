import Derived.Test.YtljafmkehfnldaaDWC
namespace Go.Proofs.Ytljafmkehfnldaa
set_option linter.unusedVariables false
set_option linter.unusedSimpArgs false
open Go.RowKit
theorem spl_le {p : Pg} : (spl p).l.items.length ≤ 8 ∧ (spl p).r.items.length ≤ 8 := by
  unfold spl
  split
  · rename_i h
    have h8 := h.2
    unfold prt
    split
    · simp [Pg.wi, h8]
    · split
      · simp [Pg.wi, h8]
      · simp [Hv.none, Pg.zero]
  · simp [Hv.none, Pg.zero]
theorem pi_le {v w : World} {P : Pv} {L : Pg} (h : Pn v w P) (e : P.pg = L) (hl : L.items.length ≤ 8) : Pi w P := h.piL e hl
set_option maxHeartbeats 16000000 in
set_option maxRecDepth 16000 in
theorem nodeSplits_any (w : World) (p : Pv) (hP : Pj w p) :
    Calls Try.prog 5 #[p.vl] w fun e w' => e = .returned (.bool true) ∧ Below w.heap.size w w' := by
  have PP := hide fun (W : World) (hb : Below w.heap.size w W) => hP.keep hb
  have A0 := hide (al w (.cells p.cs 25))
  have X0 := hide (heap_alloc_new w (.cells p.cs 25))
  have SPP := hide ((PP.out _ A0.out).spare)
  have SLE := hide (spl_le (p := p.pg))
  unfold Pv.vl at SPP ⊢
  simp only [Pv.cs] at SPP A0 X0 ⊢
  clear hP
  go_enter Try.func5, Try.ntmps5
  go_wp2_with fail
  refine SPP.out.mono ?_
  rintro _ w1 ⟨q, rfl, hS⟩
  have A1 := hide (al w1 (.cells #[.int .i64 q.kind, .int .i64 q.level, .slice q.aI q.items.length q.cI, .slice q.aD q.data.length q.cD, .int .i64 q.next] 25))
  have XQ := hide (heap_alloc_new w1 (.cells #[.int .i64 q.kind, .int .i64 q.level, .slice q.aI q.items.length q.cI, .slice q.aD q.data.length q.cD, .int .i64 q.next] 25))
  have XP := hide (blk_keep X0.out (bt hS.b A1.out))
  have B1 := hide (bt A0.out (bt hS.b A1.out))
  have S1 := hide (hS.keep A1.out)
  have EQ := hide hS.e
  have QJ := hide (S1.out.pj (PP.out _ B1.out))
  clear hS SPP A0 X0 A1
  have CT := hide (Split_any (w1.alloc (.cells #[.int .i64 q.kind, .int .i64 q.level, .slice q.aI q.items.length q.cI, .slice q.aD q.data.length q.cD, .int .i64 q.next] 25)) q QJ.out.i QJ.out.d QJ.out.s)
  rw [EQ.out] at CT
  obtain ⟨Z, hZ⟩ : ∃ Z, spl p.pg = Z := ⟨_, rfl⟩
  have RS := hide fun (W : World) (hb : Below w.heap.size w W) => rSplit_any W p (PP.out W hb)
  rw [hZ] at CT SLE RS
  clear hZ
  unfold Pv.vl at CT RS
  simp only [Pv.cs] at CT RS
  obtain ⟨p0, p1', p2', p3, p4⟩ := cells5 XQ.out
  go_wp2_with fail
  refine CT.out.mono ?_
  rintro _ w2 ⟨a, b, aS, cS, rfl, hH, ea, eb⟩
  have U := hide (two_blocks w2 (.cells #[.int .i64 a.kind, .int .i64 a.level, .slice a.aI a.items.length a.cI, .slice a.aD a.data.length a.cD, .int .i64 a.next] 25) (.cells #[.int .i64 b.kind, .int .i64 b.level, .slice b.aI b.items.length b.cI, .slice b.aD b.data.length b.cD, .int .i64 b.next] 25) (Below.refl _ _))
  have HH := hide (hH.keep U.out.2.2.1)
  have BC := hide (bt hH.b U.out.2.2.1)
  have Xa := hide U.out.1
  have Xb := hide U.out.2.1
  replace XP := hide (blk_keep XP.out BC.out)
  replace XQ := hide (blk_keep XQ.out BC.out)
  have Ea := hide ea
  have Eb := hide eb
  have Pa := hide (HH.out.p1.piL ea SLE.out.1)
  have Pb := hide (HH.out.p2.piL eb SLE.out.2)
  have SA := hide (HH.out.sp.1.bs HH.out.sp.2)
  clear hH ea eb CT p0 p1' p2' p3 p4 U HH
  have CT := hide (RS.out ((w2.alloc (.cells #[.int .i64 a.kind, .int .i64 a.level, .slice a.aI a.items.length a.cI, .slice a.aD a.data.length a.cD, .int .i64 a.next] 25)).alloc (.cells #[.int .i64 b.kind, .int .i64 b.level, .slice b.aI b.items.length b.cI, .slice b.aD b.data.length b.cD, .int .i64 b.next] 25)) (bt B1.out BC.out))
  obtain ⟨p0, p1', p2', p3, p4⟩ := cells5 XP.out
  go_wp2_with fail
  refine CT.out.mono ?_
  rintro _ w3 ⟨c, d, aT, cT, rfl, hc, hd, hs, ec, ed, hb⟩
  have U := hide (two_blocks w3 (.cells #[.int .i64 c.kind, .int .i64 c.level, .slice c.aI c.items.length c.cI, .slice c.aD c.data.length c.cD, .int .i64 c.next] 25) (.cells #[.int .i64 d.kind, .int .i64 d.level, .slice d.aI d.items.length d.cI, .slice d.aD d.data.length d.cD, .int .i64 d.next] 25) (Below.refl _ _))
  have BU := hide (bt hb U.out.2.2.1)
  have Pc' := hide (hc.keep U.out.2.2.1)
  have Pd' := hide (hd.keep U.out.2.2.1)
  have ST := hide (hs.keep U.out.2.2.1)
  have Ec := hide ec
  have Ed := hide ed
  have Xc := hide U.out.1
  have Xd := hide U.out.2.1
  replace XP := hide (blk_keep XP.out BU.out)
  replace XQ := hide (blk_keep XQ.out BU.out)
  replace Xa := hide (blk_keep Xa.out BU.out)
  replace Xb := hide (blk_keep Xb.out BU.out)
  replace Pa := hide (Pa.out.keep BU.out)
  replace Pb := hide (Pb.out.keep BU.out)
  replace SA := hide (SA.out.keep BU.out)
  replace BC := hide (bt BC.out BU.out)
  clear hc hd hs ec ed hb CT p0 p1' p2' p3 p4 U BU RS
  have CT := hide (EqPage_same ((w3.alloc (.cells #[.int .i64 c.kind, .int .i64 c.level, .slice c.aI c.items.length c.cI, .slice c.aD c.data.length c.cD, .int .i64 c.next] 25)).alloc (.cells #[.int .i64 d.kind, .int .i64 d.level, .slice d.aI d.items.length d.cI, .slice d.aD d.data.length d.cD, .int .i64 d.next] 25)) a c Pa.out Pc'.out (by rw [Ea.out, Ec.out]))
  unfold Pv.vl at CT
  simp only [Pv.cs] at CT
  obtain ⟨p0, p1', p2', p3, p4⟩ := cells5 Xa.out
  obtain ⟨s0, s1, s2, s3, s4⟩ := cells5 Xc.out
  go_wp2_with fail
  refine CT.out.mono ?_
  rintro _ u0 ⟨rfl, hb⟩
  replace XP := hide (blk_keep XP.out hb)
  replace XQ := hide (blk_keep XQ.out hb)
  replace Xa := hide (blk_keep Xa.out hb)
  replace Xb := hide (blk_keep Xb.out hb)
  replace Xc := hide (blk_keep Xc.out hb)
  replace Xd := hide (blk_keep Xd.out hb)
  replace Pa := hide (Pa.out.keep hb)
  replace Pb := hide (Pb.out.keep hb)
  replace Pc' := hide (Pc'.out.keep hb)
  replace Pd' := hide (Pd'.out.keep hb)
  replace SA := hide (SA.out.keep hb)
  replace ST := hide (ST.out.keep hb)
  replace BC := hide (bt BC.out hb)
  clear hb CT p0 p1' p2' p3 p4 s0 s1 s2 s3 s4
  have CT := hide (EqPage_same u0 b d Pb.out Pd'.out (by rw [Eb.out, Ed.out]))
  unfold Pv.vl at CT
  simp only [Pv.cs] at CT
  obtain ⟨p0, p1', p2', p3, p4⟩ := cells5 Xb.out
  obtain ⟨s0, s1, s2, s3, s4⟩ := cells5 Xd.out
  go_wp2_with fail
  refine CT.out.mono ?_
  rintro _ u1 ⟨rfl, hb⟩
  replace XP := hide (blk_keep XP.out hb)
  replace XQ := hide (blk_keep XQ.out hb)
  replace Xa := hide (blk_keep Xa.out hb)
  replace Xb := hide (blk_keep Xb.out hb)
  replace Xc := hide (blk_keep Xc.out hb)
  replace Xd := hide (blk_keep Xd.out hb)
  replace Pa := hide (Pa.out.keep hb)
  replace Pb := hide (Pb.out.keep hb)
  replace Pc' := hide (Pc'.out.keep hb)
  replace Pd' := hide (Pd'.out.keep hb)
  replace SA := hide (SA.out.keep hb)
  replace ST := hide (ST.out.keep hb)
  replace BC := hide (bt BC.out hb)
  clear hb CT p0 p1' p2' p3 p4 s0 s1 s2 s3 s4
  have CT := hide (EqBytes_same u1 aS aT Z.s.length Z.s.length cS cT Z.s SA.out ST.out rfl rfl)
  go_wp2_with fail
  refine CT.out.mono ?_
  rintro _ u2 ⟨rfl, hb⟩
  replace XP := hide (blk_keep XP.out hb)
  replace XQ := hide (blk_keep XQ.out hb)
  replace Xa := hide (blk_keep Xa.out hb)
  replace Xb := hide (blk_keep Xb.out hb)
  replace Xc := hide (blk_keep Xc.out hb)
  replace Xd := hide (blk_keep Xd.out hb)
  replace Pa := hide (Pa.out.keep hb)
  replace Pb := hide (Pb.out.keep hb)
  replace Pc' := hide (Pc'.out.keep hb)
  replace Pd' := hide (Pd'.out.keep hb)
  replace SA := hide (SA.out.keep hb)
  replace ST := hide (ST.out.keep hb)
  replace BC := hide (bt BC.out hb)
  clear hb CT
  have CT := hide (KeptPage_any u2 _ p q ((PP.out _ (bt B1.out BC.out)).i) (S1.out.keep BC.out) (by have := (PP.out _ B1.out).n; omega))
  unfold Pv.vl at CT
  simp only [Pv.cs] at CT
  obtain ⟨p0, p1', p2', p3, p4⟩ := cells5 XP.out
  obtain ⟨s0, s1, s2, s3, s4⟩ := cells5 XQ.out
  go_wp2_with fail
  refine CT.out.mono ?_
  rintro _ u3 ⟨rfl, hb⟩
  replace BC := hide (bt BC.out hb)
  clear hb CT p0 p1' p2' p3 p4 s0 s1 s2 s3 s4
  go_wp2_with fail
  refine (works_any u3).mono ?_
  rintro _ u4 ⟨rfl, hb⟩
  have BF := hide (bt B1.out (bt BC.out hb))
  clear hb
  go_wp2_with fail
  go_ret
  exact ⟨rfl, BF.out⟩
end Go.Proofs.Ytljafmkehfnldaa
