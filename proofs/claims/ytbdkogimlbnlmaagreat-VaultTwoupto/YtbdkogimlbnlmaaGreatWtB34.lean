import Derived.Test.YtbdkogimlbnlmaaGreatWtB33
set_option linter.unusedVariables false
set_option linter.unusedSimpArgs false
set_option maxHeartbeats 64000000
set_option maxRecDepth 8000
namespace Go.Proofs.YtbdkogimlbnlmaaGreat
open Go.RowKit
variable {T:List Pv}{c g i n sz:Nat}{a:Option Addr}{p:Pv}{w:World}
theorem Fx.far{w' wx:World}{col colR col' colR':Nat->Nat}{own T:Nat->Prop}(h:Fx w col colR own w' col' colR')(hb:But T w' wx)(hn:∀k,T k->w.heap.size<=k):Fx w col colR own wx col' colR':=⟨h.b.trans hb (λk hk e=>absurd (hn k e) (by omega)),h.c,h.r⟩
section
variable (v w:World) (wb b rb pb mb:Nat) (S:Vs) (D:Rd) (H:List Sn) (pc col colR:Nat->Nat) (aW:Option Addr) (cW:Nat) (W:List Wl) (K:Bkk) (M:Nat)
theorem EU(h:Wo v w wb b rb pb mb S D H pc col colR aW cW W K M)(hM:M<=100000000000)(o:Oq)(hp:Po2 w col colR o.p):
 Calls Tryz.prog 34 #[.pointer (some ⟨wb,0,none⟩),o.vl] w λe w'=>NxV v w wb b rb pb mb col colR aW cW W K M (λS'=>o.kind=0->∃q:Pv,q.pg=o.p.pg/\S'=S.makeS o.p.pg q) e w':=by
 have OV:Hid (o.vl=.agg o.cs):=rfl;rw[OV.o];have A0:=ig (al w (.cells o.cs 33));have X0:=ig (aH w (.cells o.cs 33));have Z0:=ig (h.va.z (ai w.heap.size));have H1:=ig (h.ws.keep A0.o);have HW:=ig h;have HP1:=ig (hp.keep A0.o);have SM:=ig hp.s;have hM2:M<=1000000000000:=by omega
 clear h hp;go_enter Tryz.func34,Tryz.ntmps34;obtain⟨c0,c1,c2,c3,c4,c5,c6,c7⟩:=ij X0.o;have SP:=ig (sO (w.alloc (.cells o.cs 33)) o.p HP1.o.z.pi SM.o.1.1 SM.o.2 SM.o.1.2);unfold Pv.vl at SP;simp only[Pv.cs] at SP;go_wp2_with fail
 refine SP.o.mono ?_;rintro _ w2 ⟨q,rfl,hs2⟩;clear SP c0 c1 c2 c3 c4 c5 c6 c7;generalize w.alloc (.cells o.cs 33)=w1 at *;obtain⟨gi,hgi⟩:∃gi,w.heap.size=gi:=⟨_,rfl⟩;simp only[hgi] at X0 Z0 ⊢;clear hgi;have S2:=ig hs2;clear hs2;have EP:=ig S2.o.e;have QK:Hid (∀k,Blk q k->w1.heap.size<=k/\k<w2.heap.size):=λk hk=>S2.o.blk hk
 have AL:=ig (al w2 (.cells #[.int .i64 0,.int .i64 0,.slice none 0 0,.slice none 0 0,.int .i64 0] 31));have Y0:=ig (aH w2 (.cells #[.int .i64 0,.int .i64 0,.slice none 0 0,.slice none 0 0,.int .i64 0] 31));have B2:Hid (Below w2.heap.size w2 ((w2.alloc (.cells #[.int .i64 0,.int .i64 0,.slice none 0 0,.slice none 0 0,.int .i64 0] 31)).setRow w2.heap.size #[.int .i64 q.kind,.int .i64 q.level,.slice q.aI q.items.length q.cI,.slice q.aD q.data.length q.cD,.int .i64 q.next])):=((But.ofBelow (S:=λ_=>False) AL.o).trans (iZ _ _ _) (λk hk e=>by omega)).below (λ_ _ e=>e)
 have Y3:Hid (((w2.alloc (.cells #[.int .i64 0,.int .i64 0,.slice none 0 0,.slice none 0 0,.int .i64 0] 31)).setRow w2.heap.size #[.int .i64 q.kind,.int .i64 q.level,.slice q.aI q.items.length q.cI,.slice q.aD q.data.length q.cD,.int .i64 q.next]).heap[w2.heap.size]?=some (.cells #[.int .i64 q.kind,.int .i64 q.level,.slice q.aI q.items.length q.cI,.slice q.aD q.data.length q.cD,.int .i64 q.next] 31 (0,0))):=cY _ _ _ _ _ _ Y0.o;have B3:=ig (bt S2.o.b B2.o);have SV3:=ig ((Sp.pre H1.o.va.bl S2.o).keep B2.o);have GZ:Hid (w1.heap.size<=w2.heap.size):=S2.o.b.size;obtain⟨d0,d1,d2,d3,d4,d5,d6,d7⟩:=ij (im X0.o B3.o);by_cases hk:o.kind=0
 all_goals
  have HK:=ig hk;clear hk;first
  |have e0:=HK.o
   rw[e0] at d0;clear e0;go_upto_region 4 with(first|(refine cu rfl 31 _ _ rfl w2.heap.size _ rfl rfl 31 _ Y0.o iq rfl (by simp[Value.oneCell']) ?_)|fail)
  |have k0:(o.kind==0)=false:=by simp;exact HK.o
   go_upto_region 7 with(first|(refine cu rfl 31 _ _ rfl w2.heap.size _ rfl rfl 31 _ Y0.o iq rfl (by simp[Value.oneCell']) ?_)|fail)
  clear d0 d1 d2 d3 d4 d5 d6 d7 Y0 AL B2;generalize (w2.alloc (.cells #[.int .i64 0,.int .i64 0,.slice none 0 0,.slice none 0 0,.int .i64 0] 31)).setRow w2.heap.size #[.int .i64 q.kind,.int .i64 q.level,.slice q.aI q.items.length q.cI,.slice q.aD q.data.length q.cD,.int .i64 q.next]=w3 at *;have L23:Hid (w2.heap.size<w3.heap.size):=(af.1 Y3.o).1;obtain⟨g5,hg5⟩:∃g5,w2.heap.size=g5:=⟨_,rfl⟩;have QL:Hid (∀k,Blk q k->w1.heap.size<=k/\k<w3.heap.size):=λk hk=>⟨(QK.o k hk).1,by have:=(QK.o k hk).2;have:=L23.o;omega⟩
  simp only[hg5] at Y3 GZ ⊢;clear hg5 QK L23;have H3:=ig (H1.o.keep B3.o);have C5:Hid (col g5=0/\colR g5=0):=H1.o.va.z GZ.o;have CQ:Hid (∀k,Blk q k->col k=0/\colR k=0):=λk hk=>H1.o.va.z (QL.o k hk).1
  have PF:Hid (∀W:World,Below w3.heap.size w3 W->Pf col W q):=λW hb V hV=>by
   have sp:Sp v W o.p q:=SV3.o.keep hb;have va:=(H3.o.keep hb).va;refine(sp.but hV (((But.ofBelow (S:=λ_=>False) va.bl).trans hV (λk hk e=>?_)).below (λ_ _ e=>e)) (λk hk e=>?_)).pi HP1.o.z.pi SM.o.2
   . have:=va.vn k (by simp only[Classical.not_not] at e;omega);omega
   . have:=(CQ.o k hk).1;simp only[Classical.not_not] at e;omega
  have SQ:=ig (th SM.o EP.o);have DR:=ig (dr2 w3);first
  |have e0:o.kind=0:=HK.o
   clear e0;have SS:Hid (∀W:World,Below w3.heap.size w3 W->W.cell? ⟨wb,0,none⟩=some (.pointer (some ⟨b,0,none⟩))/\W.cell? ⟨g5,0,none⟩=some (.int .i64 q.kind)/\W.cell? ⟨g5,1,none⟩=some (.int .i64 q.level)/\W.cell? ⟨g5,2,none⟩=some (.slice q.aI q.items.length q.cI)/\W.cell? ⟨g5,3,none⟩=some (.slice q.aD q.data.length q.cD)/\W.cell? ⟨g5,4,none⟩=some (.int .i64 q.next)):=λW hb=>⟨((H3.o.keep hb).cells).1,iu (im Y3.o hb)⟩
   have CA:=ig (Ex HW.o.tw hM2 w3.drew b pb mb pc col (H3.o.keep DR.o).va.V q (PF.o _ DR.o) SQ.o);rw[EP.o] at CA;obtain⟨r1,hr1⟩:∃r,(S.makeR o.p.pg).1=r:=⟨_,rfl⟩;obtain⟨r2,hr2⟩:∃r,(S.makeR o.p.pg).2=r:=⟨_,rfl⟩;have CD:=ig λ(W:World)(hR:Ra W rb D H colR)(q1:Pv)(hP:Pf colR W o.p)(hq:q1.pg=o.p.pg)=>E0 HW.o.tw hM2 W rb colR hR o.p q1 hP hq
   simp only[hr1,hr2] at CA CD;have eq1:(r1==r1)=true:=by simp
   have eq2:(r2==r2)=true:=by simp
   clear hr1 hr2;unfold Pv.vl at CA CD;simp only[Pv.cs] at CA CD;refine wrd SS DR.o λhHeld=>?_
   refine tkd 0 1 2 3 ?_;refine tk 4 ?_;refine tw 5 λKx hK=>?_
   go_simp;refine(CA.o).mono ?_;rintro _ w4 ⟨q1,hq1,rfl,pc2,col2,hV2,hF2⟩;have F4:=ig ((Vf.keep (c:=col) DR.o).trans hF2);have H4:=ig (H3.o.prog hV2 F4.o);have Q1:=ig hq1;clear hq1 hV2 hF2 CA;have Y4:=ig (F4.o.box Y3.o C5.o.1);have X4:=ig (F4.o.box (im X0.o B3.o) Z0.o.1);have SV4:=ig (SV3.o.but F4.o.b H4.o.va.bl (λk hk e=>by have:=CQ.o k hk;omega))
   have HP4:=ig ((HP1.o.keep B3.o).vf F4.o);go_wp2_with fail
   refine hK.o _ _ (⟨H4.o.cells.1,iu Y4.o⟩) (λhHeld=>?_)
   refine tkd 6 7 8 9 ?_;refine tk 10 ?_;refine td ?_;clear hHeld SS;go_upto_region 5 with fail
   have DR4:=ig (dr2 w4);have SS:Hid (∀W:World,Below w4.heap.size w4 W->W.cell? ⟨wb,1,none⟩=some (.pointer (some ⟨rb,0,none⟩))/\W.cell? ⟨gi,3,none⟩=some (.int .i64 o.p.kind)/\W.cell? ⟨gi,4,none⟩=some (.int .i64 o.p.level)/\W.cell? ⟨gi,5,none⟩=some (.slice o.p.aI o.p.items.length o.p.cI)/\W.cell? ⟨gi,6,none⟩=some (.slice o.p.aD o.p.data.length o.p.cD)/\W.cell? ⟨gi,7,none⟩=some (.int .i64 o.p.next)):=λW hb=>⟨((H4.o.keep hb).cells).2.1,(ij (im X4.o hb)).2.2.2⟩
   have CE:=ig (CD.o w4.drew (H4.o.keep DR4.o).va.R q1 (HP4.o.keep DR4.o).pfR Q1.o);clear CD;refine wrd SS DR4.o λhHeld=>?_
   refine tkd 0 1 2 3 ?_;refine tkb 4 5 ?_;refine tw 6 λKx hK=>?_
   go_simp;refine(CE.o).mono ?_;rintro _ w5 ⟨rfl,D3,Hs3,colR2,hR3,hF3,hT3⟩;have F5:=ig ((Vf.keep (c:=colR) DR4.o).trans hF3);have H5:=ig (H4.o.doc hR3 F5.o);have TW:=ig hT3;clear hR3 hF3 hT3 CE;go_wp2_with fail
   refine hK.o _ _ (⟨H5.o.cells.2.1,(ij (F5.o.box X4.o Z0.o.2)).2.2.2⟩) (λhHeld=>?_)
   refine tkd 7 8 9 10 ?_;refine tk 11 ?_;refine td ?_;clear hHeld SS
  |skip
   have SS:Hid (∀W:World,Below w3.heap.size w3 W->W.cell? ⟨wb,0,none⟩=some (.pointer (some ⟨b,0,none⟩))/\W.cell? ⟨gi,1,none⟩=some (.int .i64 o.n)/\W.cell? ⟨g5,0,none⟩=some (.int .i64 q.kind)/\W.cell? ⟨g5,1,none⟩=some (.int .i64 q.level)/\W.cell? ⟨g5,2,none⟩=some (.slice q.aI q.items.length q.cI)/\W.cell? ⟨g5,3,none⟩=some (.slice q.aD q.data.length q.cD)/\W.cell? ⟨g5,4,none⟩=some (.int .i64 q.next)):=λW hb=>⟨((H3.o.keep hb).cells).1,(ij (im (im X0.o B3.o) hb)).2.1,iu (im Y3.o hb)⟩
   have CA:=ig (Ed HW.o.tw hM2 w3.drew b pb mb pc col (H3.o.keep DR.o).va.V o.n q (PF.o _ DR.o).pi SQ.o);rw[EP.o] at CA;obtain⟨r1,hr1⟩:∃r,S.writeE o.n o.p.pg=r:=⟨_,rfl⟩;have CD:=ig λ(W:World)(hR:Ra W rb D H colR)(q1:Pv)(hP:Pf colR W o.p)(hq:q1.pg=o.p.pg)=>Dy HW.o.tw hM2 W rb colR hR o.n o.p q1 hP hq
   simp only[hr1] at CA CD;have eq1:(r1==r1)=true:=by simp
   clear hr1;unfold Pv.vl at CA CD;simp only[Pv.cs] at CA CD;refine wrd SS DR.o λhHeld=>?_
   refine tkd 0 1 2 3 ?_;refine tkb 4 5 ?_;refine tk 6 ?_;refine tw 7 λKx hK=>?_
   go_simp;refine(CA.o).mono ?_;rintro _ w4 ⟨q1,hq1,rfl,pc2,col2,hV2,hF2⟩;have F4:=ig ((Vf.keep (c:=col) DR.o).trans hF2);have H4:=ig (H3.o.prog hV2 F4.o);have Q1:=ig hq1;clear hq1 hV2 hF2 CA;have Y4:=ig (F4.o.box Y3.o C5.o.1);have X4:=ig (F4.o.box (im X0.o B3.o) Z0.o.1);have SV4:=ig (SV3.o.but F4.o.b H4.o.va.bl (λk hk e=>by have:=CQ.o k hk;omega))
   have HP4:=ig ((HP1.o.keep B3.o).vf F4.o);go_wp2_with fail
   refine hK.o _ _ (⟨H4.o.cells.1,(ij X4.o).2.1,iu Y4.o⟩) (λhHeld=>?_)
   refine tk 8 ?_;refine td ?_;clear hHeld SS;go_upto_region 8 with fail
   have DR4:=ig (dr2 w4);have SS:Hid (∀W:World,Below w4.heap.size w4 W->W.cell? ⟨wb,1,none⟩=some (.pointer (some ⟨rb,0,none⟩))/\W.cell? ⟨gi,1,none⟩=some (.int .i64 o.n)/\W.cell? ⟨gi,3,none⟩=some (.int .i64 o.p.kind)/\W.cell? ⟨gi,4,none⟩=some (.int .i64 o.p.level)/\W.cell? ⟨gi,5,none⟩=some (.slice o.p.aI o.p.items.length o.p.cI)/\W.cell? ⟨gi,6,none⟩=some (.slice o.p.aD o.p.data.length o.p.cD)/\W.cell? ⟨gi,7,none⟩=some (.int .i64 o.p.next)):=λW hb=>⟨((H4.o.keep hb).cells).2.1,(ij (im X4.o hb)).2.1,(ij (im X4.o hb)).2.2.2⟩
   have CE:=ig (CD.o w4.drew (H4.o.keep DR4.o).va.R q1 (HP4.o.keep DR4.o).pfR Q1.o);clear CD;refine wrd SS DR4.o λhHeld=>?_
   refine tkd 0 1 2 3 ?_;refine tkd 4 5 6 7 ?_;refine tk 8 ?_;refine tw 9 λKx hK=>?_
   go_simp;refine(CE.o).mono ?_;rintro _ w5 ⟨rfl,D3,Hs3,colR2,hR3,hF3,hT3⟩;have F5:=ig ((Vf.keep (c:=colR) DR4.o).trans hF3);have H5:=ig (H4.o.doc hR3 F5.o);have TW:=ig hT3;clear hR3 hF3 hT3 CE;go_wp2_with fail
   refine hK.o _ _ (⟨H5.o.cells.2.1,(ij (F5.o.box X4.o Z0.o.2)).2.1,(ij (F5.o.box X4.o Z0.o.2)).2.2.2⟩) (λhHeld=>?_)
   refine tkb 10 11 ?_;refine td ?_;clear hHeld SS
  have Y5:=ig (F5.o.box Y4.o C5.o.2);have X5:=ig (F5.o.box X4.o Z0.o.2);have SV5:=ig (SV4.o.but F5.o.b H5.o.va.bl (λk hk e=>by have:=CQ.o k hk;omega))
  have HP5:=ig (HP4.o.vfR F5.o);have FX5:Hid (Fx w col colR (λ_=>False) w5 col2 colR2):=((Fx.keep (bt A0.o B3.o)).trans (Fx.vf F4.o) (λ_ _ e=>e)).trans (Fx.vfR F5.o) (λ_ _ e=>e)
  have CQ9:Hid (∀k,Blk q k->col2 k=0/\colR2 k=0):=λk hk=>by
   have l:=(QL.o k hk).2;have l4:=F4.o.b.size;rw[F4.o.c k l,F5.o.c k (by omega)]
   exact CQ.o k hk
  have KP:=ig (tB w5 v o.p q HP5.o.z.pi SV5.o SM.o.2);unfold Pv.vl at KP;simp only[Pv.cs] at KP;obtain⟨x0,x1,x2,x3,x4⟩:=iu Y5.o;obtain⟨d0,d1,d2,d3,d4,d5,d6,d7⟩:=ij X5.o;go_wp2_with fail
  refine KP.o.mono ?_;rintro _ w9 ⟨rfl,hb9⟩;have H9:=ig (H5.o.keep hb9);have Y9:=ig (im Y5.o hb9);have SV9:=ig (SV5.o.keep hb9);have FX9:Hid (Fx w col colR (λ_=>False) w9 col2 colR2):=FX5.o.trans (Fx.keep hb9) (λ_ _ e=>e)
  clear hb9 KP x0 x1 x2 x3 x4 d0 d1 d2 d3 d4 d5 d6 d7 Y3 Y4 Y5 X4 X5 SV3 SV4 SV5 HP4 HP5 F4 F5 H3 H4 H5 FX5 PF DR DR4 S2 B3;obtain⟨n,hn⟩:∃n,q.items.length=n:=⟨_,rfl⟩;obtain⟨g,L0,hqg,hqc,hlo⟩:=SV9.o.lo Y9.o hn;have LO:=ig hlo;have QG:=ig hqg;have hnb:n<=1048576:=by rw[<-hn];exact SQ.o.2
  clear hlo hqg hqc hn;have MD:Hid ((⟨q.aD,q.cD,q.data⟩:Br)∈rp q):=dN;obtain⟨x0,x1,x2,x3,x4⟩:=iu LO.o.bx;go_wp2_with fail
  clear x0 x1 x2 x3 x4;go_loopw [12] (λvi wx=>∃(i:Nat)(L:List Iv),i<=n/\vi=.int .i64 (i:Int)/\Lo w9 wx g5 g q n i L) (λvi _=>n-(intOf vi).toNat)
  case atStart=>exact⟨0,L0,aF _,rfl,LO.o⟩
  case round=>
   obtain⟨i,L,hi,rfl,hlo⟩:=hrel;have LI:=ig hlo;clear hlo LO;by_cases hlt:i<n
   . have hiI:(i:Int)<(n:Int):=by omega
     obtain⟨x,hx⟩:∃x,q.items.getD i Iv.zero=x:=⟨_,rfl⟩;obtain⟨ku,vu,km,vm⟩:=LI.o.kv hlt
     have xm:x∈q.items:=by
      have:=LI.o.ql;rw[<-hx];simp only[aq];rw[aU (by omega)]
      exact dZ _
     have sk:=SQ.o.1.2 x xm;clear xm;rw[hx] at ku vu km vm;have MK:=ig km;have MV:=ig vm;obtain⟨gK,_,ek,_⟩:=ku;obtain⟨gV,_,ev,_⟩:=vu;have KE:=ig ek;have VE:=ig ev;obtain⟨mk,hmk⟩:∃mk,x.key.length=mk:=⟨_,rfl⟩;obtain⟨mv,hmv⟩:∃mv,x.val.length=mv:=⟨_,rfl⟩;have KL:=ig hmk;have VL:=ig hmv;have hkb:mk<=140737488355264:=by rw[<-hmk];exact sk.1
     have hvb:mv<=140737488355264:=by rw[<-hmv];exact sk.2
     clear km vm ek ev hmk hmv sk;obtain⟨x0,x1,x2,x3,x4⟩:=iu LI.o.bx;obtain⟨⟨p0,p1,p2,p3⟩,f0,f1,f2,f3⟩:=LI.o.jw.item4 (k:=i) (by rw[LI.o.ll];omega)
     rw[LI.o.li i (ai _) hlt,hx] at p0 p1 p2 p3;rw[KE.o] at p0;rw[VE.o] at p1;rw[KL.o] at p0;rw[VL.o] at p1;generalize wr=w10 at *;go_wp2_with fail
     clear x0 x1 x2 x3 x4 p0 p1 p2 p3 f0 f1 f2 f3;go_loopw [13] (λvk wx=>∃k:Nat,k<=mk/\vk=.int .i64 (k:Int)/\Lo w9 wx g5 g q n i L) (λvk _=>mk-(intOf vk).toNat)
     case atStart=>exact⟨0,aF _,rfl,LI.o⟩
     case round=>
      obtain⟨k,hk,rfl,hlo⟩:=hrel;have LJ:=ig hlo;clear hlo;obtain⟨x0,x1,x2,x3,x4⟩:=iu LJ.o.bx;obtain⟨⟨p0,p1,p2,p3⟩,f0,f1,f2,f3⟩:=LJ.o.jw.item4 (k:=i) (by rw[LJ.o.ll];omega)
      rw[LJ.o.li i (ai _) hlt,hx] at p0 p1 p2 p3;rw[KE.o] at p0;rw[VE.o] at p1;rw[KL.o] at p0;rw[VL.o] at p1;by_cases hkl:k<mk
      . have hkI:(k:Int)<(mk:Int):=by omega
        have uu:=(LJ.o.u8 _ MK.o);simp only[KE.o,KL.o] at uu;obtain⟨y,hy8,cy,fy⟩:=uu.cell hkl;obtain⟨z,hz,hz8⟩:∃z:Nat,bits .xor .u8 ((y:Nat):Int) 1=((z:Nat):Int)/\z<256:=⟨y ^^^ 1,u8_xor_nat y 1 hy8 (by decide),Nat.xor_lt_two_pow (n:=8) hy8 (by decide)⟩
        have NX:=ig (LJ.o.byte MK.o KE.o k hz8);clear uu hy8 hz8;go_wp2_with fail
        generalize wr.setCell ⟨gK,k,none⟩ (.int .u8 ((z:Nat):Int))=wn at *;go_roundw
        case rel=>exact⟨k+1,by omega,by go_num,NX.o⟩
        case measure=>simp[intOf];omega
      . obtain rfl:k=mk:=by omega
        clear x0 x1 x2 x3 x4 p0 p1 p2 p3 f0 f1 f2 f3 LI;have LI:=LJ;clear LJ;obtain⟨x0,x1,x2,x3,x4⟩:=iu LI.o.bx;obtain⟨⟨p0,p1,p2,p3⟩,f0,f1,f2,f3⟩:=LI.o.jw.item4 (k:=i) (by rw[LI.o.ll];omega)
        rw[LI.o.li i (ai _) hlt,hx] at p0 p1 p2 p3;rw[KE.o] at p0;rw[VE.o] at p1;rw[KL.o] at p0;rw[VL.o] at p1;generalize wr=w10 at *;go_wp2_with fail
        clear x0 x1 x2 x3 x4 p0 p1 p2 p3 f0 f1 f2 f3;go_loopw [14] (λvk wx=>∃k:Nat,k<=mv/\vk=.int .i64 (k:Int)/\Lo w9 wx g5 g q n i L) (λvk _=>mv-(intOf vk).toNat)
        case atStart=>exact⟨0,aF _,rfl,LI.o⟩
        case round=>
         obtain⟨k,hk,rfl,hlo⟩:=hrel;have LJ:=ig hlo;clear hlo;obtain⟨x0,x1,x2,x3,x4⟩:=iu LJ.o.bx;obtain⟨⟨p0,p1,p2,p3⟩,f0,f1,f2,f3⟩:=LJ.o.jw.item4 (k:=i) (by rw[LJ.o.ll];omega)
         rw[LJ.o.li i (ai _) hlt,hx] at p0 p1 p2 p3;rw[KE.o] at p0;rw[VE.o] at p1;rw[KL.o] at p0;rw[VL.o] at p1;by_cases hkl:k<mv
         . have hkI:(k:Int)<(mv:Int):=by omega
           have uu:=(LJ.o.u8 _ MV.o);simp only[VE.o,VL.o] at uu;obtain⟨y,hy8,cy,fy⟩:=uu.cell hkl;obtain⟨z,hz,hz8⟩:∃z:Nat,bits .xor .u8 ((y:Nat):Int) 1=((z:Nat):Int)/\z<256:=⟨y ^^^ 1,u8_xor_nat y 1 hy8 (by decide),Nat.xor_lt_two_pow (n:=8) hy8 (by decide)⟩
           have NX:=ig (LJ.o.byte MV.o VE.o k hz8);clear uu hy8 hz8;go_wp2_with fail
           generalize wr.setCell ⟨gV,k,none⟩ (.int .u8 ((z:Nat):Int))=wn at *;go_roundw
           case rel=>exact⟨k+1,by omega,by go_num,NX.o⟩
           case measure=>simp[intOf];omega
         . obtain rfl:k=mv:=by omega
           have ZE:Hid (Lo w9 ((((wr.setCell ⟨g,i*4,none⟩ (.slice none 0 0)).setCell ⟨g,i*4+1,none⟩ (.slice none 0 0)).setCell ⟨g,i*4+2,none⟩ (.int .i64 0)).setCell ⟨g,i*4+3,none⟩ (.int .i64 0)) g5 g q n (i+1) (L.set i Iv.zero)):=LJ.o.zero;go_wp2_with fail
           generalize ((((wr.setCell ⟨g,i*4,none⟩ (.slice none 0 0)).setCell ⟨g,i*4+1,none⟩ (.slice none 0 0)).setCell ⟨g,i*4+2,none⟩ (.int .i64 0)).setCell ⟨g,i*4+3,none⟩ (.int .i64 0))=wn at *;go_roundw
           case rel=>exact⟨i+1,_,by omega,by go_num,ZE.o⟩
           case measure=>simp[intOf];omega
   . obtain⟨x0,x1,x2,x3,x4⟩:=iu LI.o.bx;have uD:=LI.o.u8 _ MD.o;obtain⟨gD,_,eD,_⟩:=uD;have ED:Hid (q.aD=some ⟨gD,0,none⟩):=eD;clear eD;obtain rfl:i=n:=by omega
     obtain⟨md,hmd⟩:∃md,q.data.length=md:=⟨_,rfl⟩;have HMD:=ig hmd;have hmdb:md<=140737488355264:=by rw[<-hmd];exact SQ.o.1.1
     rw[hmd] at x3;clear hmd;rw[ED.o] at x3;generalize wr=w10 at *;go_wp2_with fail
     clear x0 x1 x2 x3 x4;go_loopw [15] (λvk wx=>∃k:Nat,k<=md/\vk=.int .i64 (k:Int)/\Lo w9 wx g5 g q i i L) (λvk _=>md-(intOf vk).toNat)
     case atStart=>exact⟨0,aF _,rfl,LI.o⟩
     case round=>
      obtain⟨k,hk,rfl,hlo⟩:=hrel;have LJ:=ig hlo;clear hlo;obtain⟨x0,x1,x2,x3,x4⟩:=iu LJ.o.bx;rw[HMD.o,ED.o] at x3;by_cases hkl:k<md
      . have hkI:(k:Int)<(md:Int):=by omega
        have uu:=(LJ.o.u8 _ MD.o);simp only[ED.o,HMD.o] at uu;obtain⟨y,hy8,cy,fy⟩:=uu.cell hkl;obtain⟨z,hz,hz8⟩:∃z:Nat,bits .xor .u8 ((y:Nat):Int) 1=((z:Nat):Int)/\z<256:=⟨y ^^^ 1,u8_xor_nat y 1 hy8 (by decide),Nat.xor_lt_two_pow (n:=8) hy8 (by decide)⟩
        have NX:=ig (LJ.o.byte MD.o ED.o k hz8);clear uu hy8 hz8;go_wp2_with fail
        generalize wr.setCell ⟨gD,k,none⟩ (.int .u8 ((z:Nat):Int))=wn at *;go_roundw
        case rel=>exact⟨k+1,by omega,by go_num,NX.o⟩
        case measure=>simp[intOf];omega
      . obtain rfl:k=md:=by omega
        have FX:Hid (Fx w col colR (λ_=>False) wr col2 colR2):=FX9.o.far LJ.o.bt (λk hk=>aO A0.o.size (QL.o k hk).1)
        have WS:Hid (Ws v wr wb b rb pb mb _ D3 Hs3 pc2 col2 colR2 aW cW W K):=⟨H9.o.va.but LJ.o.bt (λk hk=>⟨(CQ9.o k hk).1,(CQ9.o k hk).2,aO H1.o.va.bl.size (QL.o k hk).1⟩),HW.o.wr.fx HW.o.va.dj FX.o⟩
        go_wp2_with fail
        go_ret;exact⟨rfl,_,D3,Hs3,pc2,col2,colR2,by first|exact λ_=>⟨q1,Q1.o,rfl⟩|exact λe=>absurd e HK.o,WS.o.wo HW.o TW.o (by omega),FX.o.b.mono (λk _ e=>e.imp id (λe=>e.imp id False.elim)),FX.o.c,FX.o.r⟩
end
section
variable (v w:World) (wb b rb pb mb:Nat) (S:Vs) (D:Rd) (H:List Sn) (pc col colR:Nat->Nat) (aW:Option Addr) (cW:Nat) (W:List Wl) (K:Bkk) (M:Nat)
theorem qD(h:Wo v w wb b rb pb mb S D H pc col colR aW cW W K M)(hM:M<=100000000000)(o:Oq)(hk:o.kind=0\/o.kind=1)(hp:Po2 w col colR o.p):
 Calls Tryz.prog 10 #[.pointer (some ⟨wb,0,none⟩),o.vl] w λe w'=>NxV v w wb b rb pb mb col colR aW cW W K M (λS'=>o.kind=0->∃q:Pv,q.pg=o.p.pg/\S'=S.makeS o.p.pg q) e w':=by
 have OV:Hid (o.vl=.agg o.cs):=rfl;rw[OV.o];have A0:=ig (al w (.cells o.cs 33));have X0:=ig (aH w (.cells o.cs 33));have Z0:=ig (h.va.z (ai w.heap.size));have H1:=ig (h.ws.keep A0.o);have HW:=ig h;have hM2:M<=1000000000000:=by omega
 have HPO:=ig (hp.keep A0.o);clear h hp;rcases hk with hk|hk
 all_goals
  go_enter Tryz.func10,Tryz.ntmps10;obtain⟨c0,c1,c2,c3,c4,c5,c6,c7⟩:=ij X0.o;rw[hk] at c0;have HK:=ig hk;go_upto_region 4 with fail
  clear hk;generalize w.alloc (.cells o.cs 33)=w1 at *;obtain⟨gi,hgi⟩:∃gi,w.heap.size=gi:=⟨_,rfl⟩;simp only[hgi] at X0 Z0 c0 c1 c2 c3 c4 c5 c6 c7 ⊢;clear hgi;have DR:=ig (dr2 w1);have UN:=ig (EU v w1 wb b rb pb mb S D H pc col colR aW cW W K M (HW.o.keep A0.o) (by omega) o HPO.o)
  have OK:Hid (o.vl=.agg o.cs):=rfl;simp only[Oq.cs,HK.o] at OK;rw[OK.o] at UN;go_wp2_with fail
  refine UN.o.mono ?_;rintro _ w2 ⟨rfl,S',D',H',pc',col',colR',hP,hw,hf⟩;have WO:=ig hw;have FX:=ig ((Fx.keep A0.o).trans hf (λ_ _ e=>e))
  have PP:=ig hP;clear hw hf UN hP;go_wp2_with fail
  go_ret;exact⟨rfl,S',D',H',pc',col',colR',PP.o,WO.o,FX.o⟩
theorem vW(h:Wo v w wb b rb pb mb S D H pc col colR aW cW W K M)(hM:M<=100000000000)(o:Oq)(hp:Po2 w col colR o.p):
 Calls Tryz.prog 10 #[.pointer (some ⟨wb,0,none⟩),o.vl] w λe w'=>Nx v w wb b rb pb mb col colR aW W K M e w':=by
 by_cases hk:o.kind=0\/o.kind=1
 . exact(qD v w wb b rb pb mb S D H pc col colR aW cW W K M h hM o hk hp).mono λ_ _ e=>e.nx
 by_cases hk:o.kind=2
 . exact(Cg v w wb b rb pb mb S D H pc col colR aW cW W K M h hM o hk).mono λ_ _ e=>e.nx
 by_cases hk:o.kind=3\/o.kind=6
 . exact El v w wb b rb pb mb S D H pc col colR aW cW W K M h hM o hk
 by_cases hk:o.kind=4
 . exact(Cd v w wb b rb pb mb S D H pc col colR aW cW W K M h hM o hk).mono λ_ _ e=>e.nx
 by_cases hk:o.kind=5
 . exact(Fw v w wb b rb pb mb S D H pc col colR aW cW W K M h hM o hk).mono λ_ _ e=>e.nx
 by_cases hk:o.kind=7
 . exact(Fu v w wb b rb pb mb S D H pc col colR aW cW W K M h hM o hk).mono λ_ _ e=>e.nx
 by_cases hk:o.kind=8
 . exact(Fs v w wb b rb pb mb S D H pc col colR aW cW W K M h hM o hk).mono λ_ _ e=>e.nx
 by_cases hk:o.kind=9
 . exact(FG v w wb b rb pb mb S D H pc col colR aW cW W K M h hM o hk).mono λ_ _ e=>e.nx
 by_cases hk:o.kind=10
 . exact Fd v w wb b rb pb mb S D H pc col colR aW cW W K M h hM o hk
 by_cases hk:o.kind=11
 . exact(Et v w wb b rb pb mb S D H pc col colR aW cW W K M h hM o hk).mono λ_ _ e=>e.nx
 by_cases hk:o.kind=12
 . exact(E5 v w wb b rb pb mb S D H pc col colR aW cW W K M h hM o hk).mono λ_ _ e=>e.nx
 by_cases hk:o.kind=13
 . exact(Eg v w wb b rb pb mb S D H pc col colR aW cW W K M h hM o hk).mono λ_ _ e=>e.nx
 by_cases hk:o.kind=14
 . exact E6 v w wb b rb pb mb S D H pc col colR aW cW W K M h hM o hk
 by_cases hk:o.kind=15
 . exact EJ v w wb b rb pb mb S D H pc col colR aW cW W K M h hM o hk
 exact(Eu v w wb b rb pb mb S D H pc col colR aW cW W K M h hM o (by omega)).mono λ_ _ e=>e.nx
end
theorem Cx{ts te:TypeId}{bs:Nat}{z:Value}(hu:Tryz.prog.underlying ts=some (.slice te))(hinfo:(Tryz.prog.info? te).map (λi=>(i.zero,i.size,i.bytes))=some (some z,sz,bs))(hz:z.cells.size=sz)(h0:0<sz)(w:World)(ty:TypeId)(a:Option Addr)(n cap:Nat)(C:List Value)(hR:Q.Gw te sz w a cap n C)(ad:Addr)(m c:Nat)(xs:List Value)(hl:xs.length=m*sz)(hc:∀j u,xs[j]?=some u->w.cell? (ad.add j)=some u)(h1:∀u∈xs,u.oneCell'=true)(hm0:0<m)(hm:n+m<=maxLen)(hlen:(n+m)*bs<=140737488355328):
 ∃g cap' w',(Builtin.append_ #[ts,ts] ty #[.slice a n cap,.slice (some ad) m c]).run Tryz.prog w=.ok (.slice (some ⟨g,0,none⟩) (n+m) cap') w'/\
  Q.Gw te sz w' (some ⟨g,0,none⟩) cap' (n+m) (C++xs)/\New w a (some ⟨g,0,none⟩)/\But (Q.InA a) w w':=by
 obtain⟨i0,hi,hz0,hz1,hz2⟩:=dc hinfo;obtain⟨g,cap',w',hr,k1,k2,k3,k4⟩:=dE (P:=Tryz.prog) w ts ty 0 te i0 z sz bs hu hi hz0 hz1 hz2 hz h0 (.slice a n cap) n C hR ad m c xs hl hc h1 hm0 hm hlen (aF _) w.heap.size rfl;rw[jN] at k2 k3;refine⟨g,cap',w',hr,k1,?_,But.inA k2⟩;intro y hy;simp only[aE] at hy;subst hy;rcases k3 with k3|k3
 . obtain⟨z,hz,e⟩:=map_some k3;exact .inl ⟨z,hz,e⟩
 . exact .inr (by show _<=g;omega)
theorem Av{ts te:TypeId}{sz bs:Nat}{z:Value}(hu:Tryz.prog.underlying ts=some (.slice te))(hinfo:(Tryz.prog.info? te).map (λi=>(i.zero,i.size,i.bytes))=some (some z,sz,bs))(hz:z.cells.size=sz)(h0:0<sz){w:World}{ops:Array Oper}{o:Oper}{a:Act}{K:Act->World->Prop}{Q':Exit->Act->World->Prop}{E:Prop}(hgd:o.guard=none)(s x:Operand)
 (ho:o.op=.call {callee:=.builtin .append,args:=#[s,x],argTypes:=#[ts,ts]}) (ao:Option Addr) (n cap:Nat) (C:List Value) (hs:a.eval s=.slice ao n cap) (hR:Q.Gw te sz w ao cap n C)
 (ad:Addr) (m c:Nat) (xs:List Value) (hx:a.eval x=.slice (some ad) m c) (hl:xs.length=m*sz) (hc:∀j u,xs[j]?=some u->w.cell? (ad.add j)=some u) (h1:∀u∈xs,u.oneCell'=true) (hm0:0<m) (hm:n+m<=maxLen) (hlen:(n+m)*bs<=140737488355328)
 (h:∀g cap' w',Q.Gw te sz w' (some ⟨g,0,none⟩) cap' (n+m) (C++xs)->New w ao (some ⟨g,0,none⟩)->But (Q.InA ao) w w'->K (a.put o.dst (.slice (some ⟨g,0,none⟩) (n+m) cap')) w'):
 if Region.wanted o (yielded ops a.tmps)=true then Oper.wp Tryz.prog o a w K Q' else E:=by
 have hw:Region.wanted o (yielded ops a.tmps)=true:=by simp[Region.wanted,hgd]
 rw[if_pos hw];obtain⟨g,cap',w',hr,k1,k2,k3⟩:=Cx hu hinfo hz h0 w o.type ao n cap C hR ad m c xs hl hc h1 hm0 hm hlen;unfold Oper.wp execOp;simp only[ho,resolve,invoke,builtin,dt,du,bO,cJ,bC,cZ,hs,hx,hr];exact h g cap' w' k1 k2 k3
theorem Eo{e:TypeId}{cap:Nat}{C:List Value}(h:Q.Gw e sz w (some ⟨g,0,none⟩) cap n C)(k:Nat)(u:Value):Q.Gw e sz (w.setCell ⟨g,k,none⟩ u) (some ⟨g,0,none⟩) cap n (C.set k u):=by
 obtain⟨hl,⟨hv,_⟩|⟨g',cap',cur,hv,hb,hg,h1,h2,h3,h4⟩⟩:=h
 . cases hv
 . cases hv;refine⟨by rw[aS];exact hl,.inr ⟨g,cap,cur.setIfInBounds k u,rfl,aF _,aM _ _ _ _ _ _ hg,h1,h2,by simpa using h3,?_⟩⟩
   rw[dW,fH,h4]
theorem qk(p:Pv):p.cs.toList.length=5:=rfl
theorem kI(x:Pv)(R:List Pv):vpg (x::R)=x.cs.toList++vpg R:=by simp[vpg]
theorem wv:∀(R:List Pv)(i k:Nat)(r:Pv),R[i]?=some r->k<5->(vpg R)[i*5+k]?=r.cs.toList[k]?
 | [],i,k,x,h,_=>by simp at h
 |y::R,0,k,x,h,hk=>by
  have hl:=qk y;simp only[gB,aE] at h;subst h;rw[kI,dX,bH,br (by omega)]
 |y::R,i+1,k,x,h,hk=>by
  have hl:=qk y;rw[dU] at h;have ih:=wv R i k x h hk;rw[kI,bj (by omega),hl,show(i+1)*5+k-5=i*5+k by omega,ih]
theorem vU:∀(R:List Pv)(i:Nat)(r r':Pv)(u:Value),R[i]?=some r->r'.cs.toList=r.cs.toList.set 2 u->vpg (R.set i r')=(vpg R).set (i*5+2) u
 | [],i,r,r',u,h,_=>by simp at h
 |y::R,0,r,r',u,h,e=>by
  have hl:=qk y;simp only[gB,aE] at h;subst h;rw[eY,kI,kI,e,dX,bH,List.set_append_left _ _ (by omega)]
 |y::R,i+1,r,r',u,h,e=>by
  have hl:=qk y;rw[dU] at h;have ih:=vU R i r r' u h e;rw[gq,kI,kI,ih,d9 _ _ (by omega),hl,show(i+1)*5+2-5=i*5+2 by omega]
theorem kr{R:List Pv}(h:Q.Gw 31 5 w a c n (vpg R))(hn:n=R.length){r:Pv}(hr:R[i]?=some r):∃g,a=some ⟨g,0,none⟩/\w.cell? ⟨g,i*5,none⟩=some (.int .i64 r.kind)/\w.cell? ⟨g,i*5+1,none⟩=some (.int .i64 r.level)/\w.cell? ⟨g,i*5+2,none⟩=some (.slice r.aI r.items.length r.cI)/\w.cell? ⟨g,i*5+3,none⟩=some (.slice r.aD r.data.length r.cD)/\w.cell? ⟨g,i*5+4,none⟩=some (.int .i64 r.next):=by
 have hi:i<R.length:=(bz.1 hr).1;obtain⟨g,e⟩:=h.addr (by omega)
 have q:=h;rw[e] at q;have k:=λ(j:Nat)(hj:j<5)=>wv R i j r hr hj
 exact⟨g,e,q.cell (by have:=k 0 (by decide);rw[cE] at this;rw[this];rfl),q.cell (by rw[k 1 (by decide)];rfl),q.cell (by rw[k 2 (by decide)];rfl),q.cell (by rw[k 3 (by decide)];rfl),q.cell (by rw[k 4 (by decide)];rfl)⟩
structure Bj(v w wx:World)(wb b rb:Nat)(col colR:Nat->Nat)(vw:Value)(K:Bkk)(i i':Nat)(R:List Pv)(a3:Option Addr)(c3:Nat)(m:List Br):Prop where
 box:wx.heap[wb]?=some (.cells (K.cs b rb vw) 55 (0,0))
 rl:R.length=K.T.length
 gt:Q.Gw 31 5 wx K.aT K.cT R.length (vpg R)
 gx:Q.Gw 31 5 wx K.aX K.cX K.X.length (vpg K.X)
 hi:∀j,i<=j->R[j]?=K.T[j]?
 lo:∀j r,j<i->R[j]?=some r->∃g,r.aI=some ⟨g,0,none⟩/\(w.heap.size<=g\/∃p,K.T[j]?=some p/\Blk p g)/\Jw wx r.aI r.cI r.items/\r.items.length<=1048579/\∀y∈r.items,y.child= -3-(j:Int)
 tp:∀j p,i'<=j->K.T[j]?=some p->Pw1 v wx col colR p
 tr:∀p∈K.T,∀t∈rp p,Rw wx t.a t.c t.l
 xp:∀p∈K.X,Pw1 v wx col colR p
 ar:Q.Gw 29 1 wx a3 c3 m.length (m.map bv)
 an:∀y,a3=some y->w.heap.size<=y.block
 bt:But (j7 wb K) w wx
section
variable {T:Nat->Prop} {v w wx wy wA w5:World} {wb b rb:Nat} {col colR:Nat->Nat} {vw:Value} {K:Bkk} {i i':Nat} {R:List Pv} {a3:Option Addr} {c3:Nat} {m:List Br}
theorem Bj.start(h:Bo v w wb b rb col colR vw K):Bj v w w wb b rb col colR vw K 0 0 K.T none 0 []:=
 ⟨h.box,rfl,h.gt,h.gx,λ_ _=>rfl,λj r hj=>absurd hj (dO _),λj p _ hp=>h.tp p (co hp),λp hp t ht=>((h.tp p hp).n.rws ht).1,h.xp,Q.Gw.nil _ _ _,λy hy=>(by cases hy),But.refl _ _⟩
theorem Bj.but(h:Bj v w wx wb b rb col colR vw K i i' R a3 c3 m)(hb:But T wx wy)(h1:¬T wb)(h2:∀y,K.aT=some y->¬T y.block)(h3:∀y,K.aX=some y->¬T y.block)(h4:∀j r,j<i->R[j]?=some r->∀y,r.aI=some y->¬T y.block)(h5:∀j p,i'<=j->K.T[j]?=some p->∀k,Blk p k->¬T k)
 (h6:∀p∈K.T,∀t∈rp p,∀y,t.a=some y->¬T y.block) (h7:∀p∈K.X,∀k,Blk p k->¬T k) (h8:∀y,a3=some y->¬T y.block) (h9:∀k,k<w.heap.size->T k->j7 wb K k):Bj v w wy wb b rb col colR vw K i i' R a3 c3 m:=
 ⟨hb.same h.box h1,h.rl,h.gt.but hb h2,h.gx.but hb h3,h.hi,λj r hj hr=>by
   obtain⟨g,e1,e2,e3,e4,e5⟩:=h.lo j r hj hr;exact⟨g,e1,e2,e3.but hb (h4 j r hj hr),e4,e5⟩,λj p hj hp=>(h.tp j p hj hp).but hb (h5 j p hj hp),λp hp t ht=>(h.tr p hp t ht).but hb (h6 p hp t ht),λp hp=>(h.xp p hp).but hb (h7 p hp),h.ar.but hb h8,h.an,h.bt.trans hb h9⟩
theorem Bj.keep(h:Bj v w wx wb b rb col colR vw K i i' R a3 c3 m)(hb:Below wx.heap.size wx wy):Bj v w wy wb b rb col colR vw K i i' R a3 c3 m:=
 h.but (T:=λ_=>False) (But.ofBelow hb) (λe=>e) (λ_ _ e=>e) (λ_ _ e=>e) (λ_ _ _ _ _ _ e=>e) (λ_ _ _ _ _ _ e=>e) (λ_ _ _ _ _ _ e=>e) (λ_ _ _ _ e=>e) (λ_ _ e=>e) (λ_ _ e=>e.elim)
theorem Bj.less(h:Bj v w wx wb b rb col colR vw K i i' R a3 c3 m):Bj v w wx wb b rb col colR vw K i (i'+1) R a3 c3 m:=⟨h.box,h.rl,h.gt,h.gx,h.hi,h.lo,λj p hj hp=>h.tp j p (by omega) hp,h.tr,h.xp,h.ar,h.an,h.bt⟩
theorem qR{a:Option Addr}{c:Nat}{L:List Iv}(h:Jw wx a c L):Q.Gw 51 4 wx a c L.length (Jc L):=h
theorem tm{a:Option Addr}{c:Nat}{l:List Nat}(h:Rw wx a c l){e:TypeId}{sz:Nat}{a2:Option Addr}{c2 n:Nat}{C:List Value}(hg:Q.Gw e sz wx a2 c2 n C)(h1:e≠5):∀y,a=some y->¬Q.InA a2 y.block:=λy hy ⟨z,hz,e⟩=>by
 obtain⟨cur,hc⟩:=hg.blk hz;exact h.nty hc h1 hy e.symm
theorem Bj.row(h:Bj v w wx wb b rb col colR vw K i i' R a3 c3 m)(hA:Below wx.heap.size wx wA)(hB:But (Q.InA a3) wA w5){g c':Nat}{x:Br}(hG:Q.Gw 29 1 w5 (some ⟨g,0,none⟩) c' (m.length+1) (m.map bv++[bv x]))(hN:New wA a3 (some ⟨g,0,none⟩)):Bj v w w5 wb b rb col colR vw K i i' R (some ⟨g,0,none⟩) c' (m++[x]):=by
 have B5:But (Q.InA a3) wx w5:=(But.ofBelow (S:=Q.InA a3) hA).trans hB (λ_ _ e=>e)
 have ar:=h.ar;have inv:∀{k:Nat},Q.InA a3 k->w.heap.size<=k:=λ⟨y,hy,e⟩=>by have:=h.an y hy;omega
 have sw:=h.bt.size;refine⟨B5.same h.box (λ⟨y,hy,e⟩=>iT ar h.box (by decide) y hy e),h.rl,h.gt.but B5 (j8 h.gt ar (by decide)),h.gx.but B5 (j8 h.gx ar (by decide)),h.hi,λj r hj hr=>?_,λj p hj hp=>(h.tp j p hj hp).but B5 (λk hk=>(h.tp j p hj hp).n.ne_row hk ar (by decide) (by decide)),λp hp t ht=>(h.tr p hp t ht).but B5 (tm (h.tr p hp t ht) ar (by decide)),λp hp=>(h.xp p hp).but B5 (λk hk=>(h.xp p hp).n.ne_row hk ar (by decide) (by decide)),?_,λy hy=>?_,h.bt.trans B5 (λk hk e=>by have:=inv e;omega)⟩
 . obtain⟨g,e1,e2,e3,e4,e5⟩:=h.lo j r hj hr;exact⟨g,e1,e2,e3.but B5 (j8 (qR e3) ar (by decide)),e4,e5⟩
 . rw[ae,bL];exact hG
 . cases hy;rcases hN ⟨g,0,none⟩ rfl with⟨z,hz,e⟩|e
   . have:=h.an z hz;show w.heap.size<=g;have e:z.block=g:=e;omega
   . have:=hA.size;have e:wA.heap.size<=g:=e;show w.heap.size<=g;omega
theorem Bj.items(h:Bj v w wx wb b rb col colR vw K i (i+1) R a3 c3 m)(h0:Bo v w wb b rb col colR vw K){p:Pv}(hp:K.T[i]?=some p){c:Nat}{L:List Iv}(hJ:Jw wx p.aI c L)(hb:But (Q.InA p.aI) wx wy):Bj v w wy wb b rb col colR vw K i (i+1) R a3 c3 m:=by
 have hm:=co hp;have pw:=h0.tp p hm;have bk:∀{k:Nat},Q.InA p.aI k->Blk p k:=λ⟨y,hy,e⟩=>.inl ⟨y,hy,e⟩
 have tt:=fw.1 h0.tt;obtain⟨hil,hie⟩:=bz.1 hp;have gj:=qR hJ;refine h.but hb (λ⟨y,hy,e⟩=>iT gj h.box (by decide) y hy e) (j8 h.gt gj (by decide)) (j8 h.gx gj (by decide)) (λj r hj hr y hy e=>?_) (λj q hj hq k hk e=>?_) (λq hq t ht y hy e=>tm (h.tr q hq t ht) gj (by decide) y hy e) (λq hq k hk e=>h0.tx p hm q hq k (bk e) hk) (j8 h.ar gj (by decide)) (λk hk e=>.inr ⟨p,hm,bk e⟩)
 . obtain⟨g,e1,e2,_⟩:=h.lo j r hj hr;rw[e1] at hy;cases hy;have l:=pw.n.blk_lt (bk e);rcases e2 with e2|⟨q,hq,e2⟩
   . have l:g<w.heap.size:=l;omega
   . obtain⟨hjl,hje⟩:=bz.1 hq;have:=tt j i hjl hil hj;rw[hie,hje] at this;exact this g e2 (bk e)
 . obtain⟨hjl,hje⟩:=bz.1 hq;have:=tt i j hil hjl (by omega)
   rw[hie,hje] at this;exact this k (bk e) hk
theorem Bj.told(h:Bj v w wx wb b rb col colR vw K i (i+1) R a3 c3 m)(h0:Bo v w wb b rb col colR vw K){p:Pv}(hp:K.T[i]?=some p){c:Nat}{L:List Iv}(hJ:Jw wx p.aI c L)(hA:Below wx.heap.size wx wA)(hB:But (Q.InA p.aI) wA w5){g5 c5 gT:Nat}{M:List Iv}(hG:Jw w5 (some ⟨g5,0,none⟩) c5 M)(hN:New wA p.aI (some ⟨g5,0,none⟩))(hl:M.length<=1048579)(hc:∀y∈M,y.child= -3-(i:Int))(hT:K.aT=some ⟨gT,0,none⟩):
 (∀s,w5.frozen? ⟨gT,s,none⟩=false)/\w5.cell? ⟨gT,i*5+2,none⟩=some (.slice p.aI p.items.length p.cI)/\Bj v w (w5.setCell ⟨gT,i*5+2,none⟩ (.slice (some ⟨g5,0,none⟩) M.length c5)) wb b rb col colR vw K (i+1) (i+1) (R.set i {p with aI:=some ⟨g5,0,none⟩,cI:=c5,items:=M}) a3 c3 m:=by
 have B5:But (Q.InA p.aI) wx w5:=(But.ofBelow (S:=Q.InA p.aI) hA).trans hB (λ_ _ e=>e)
 have k:=h.items h0 hp hJ B5;have hri:R[i]?=some p:=(h.hi i (ai _)).trans hp;obtain⟨hil,hie⟩:=bz.1 hri;have hm:=co hp;have gT':=k.gt;rw[hT] at gT';obtain⟨cur,hcur⟩:=gT'.blk rfl;have hcur:w5.heap[gT]?=some (.cells cur 31 (0,0)):=hcur;have bs:But (λj=>j=gT) w5 (w5.setCell ⟨gT,i*5+2,none⟩ (.slice (some ⟨g5,0,none⟩) M.length c5)):=(But.refl (λj=>j=gT) w5).setCell (p:=⟨gT,i*5+2,none⟩) (λ_=>rfl) _
 have bt':But (Q.InA K.aT) w5 (w5.setCell ⟨gT,i*5+2,none⟩ (.slice (some ⟨g5,0,none⟩) M.length c5)):=bs.mono (λj _ e=>⟨_,hT,e.symm⟩)
 have gt:=k.gt;refine⟨λs=>by simp[World.frozen?,hcur],?_,⟨bt'.same k.box (λ⟨y,hy,e⟩=>iT gt k.box (by decide) y hy e),by rw[aS];exact h.rl,?_,k.gx.but bt' (λy hy ⟨z,hz,e⟩=>h0.nTX z y hz hy e),λj hj=>?_,λj r hj hr=>?_,λj q hj hq=>(k.tp j q hj hq).but bt' (λx hx=>(k.tp j q hj hq).n.ne_row hx gt (by decide) (by decide)),λq hq t ht=>(k.tr q hq t ht).but bt' (tm (k.tr q hq t ht) gt (by decide)),λq hq=>(k.xp q hq).but bt' (λx hx=>(k.xp q hq).n.ne_row hx gt (by decide) (by decide)),k.ar.but bt' (j8 k.ar gt (by decide)),k.an,k.bt.trans bt' (λj _ ⟨y,hy,e⟩=>.inl (.inr (.inl ⟨y,hy,e⟩)))⟩⟩
 . have:=(kr k.gt rfl hri);obtain⟨g',e1,_,_,e2,_⟩:=this;rw[hT] at e1;cases e1;exact e2
 . rw[aS,vU R i p _ (.slice (some ⟨g5,0,none⟩) M.length c5) hri rfl,hT];exact Eo gT' _ _
 . rw[bZ (by omega)]
   exact h.hi j (by omega)
 . by_cases hji:j=i
   . subst hji;rw[dM hil] at hr;cases hr;refine⟨g5,rfl,?_,hG.but bt' (j8 (qR hG) gt (by decide)),hl,hc⟩
     rcases hN ⟨g5,0,none⟩ rfl with⟨z,hz,e⟩|e
     . exact .inr ⟨p,hp,.inl ⟨z,hz,e⟩⟩
     . have e:wA.heap.size<=g5:=e;have:=hA.size;have:=h.bt.size;exact .inl (by omega)
   . rw[bZ (by omega)] at hr
     obtain⟨g,e1,e2,e3,e4,e5⟩:=k.lo j r (by omega) hr
     exact⟨g,e1,e2,e3.but bt' (j8 (qR e3) gt (by decide)),e4,e5⟩
end
def iH(T:List Pv):List Br:=(T.map rp).flatten
theorem vR(p:Pv):(rp p).length=1+2*p.items.length:=by unfold rp;rw[bg,qL];omega
theorem vd(p:Pv)(T:List Pv):iH (p::T)=rp p++iH T:=by simp[iH]
theorem sT(A B:List Pv):iH (A++B)=iH A++iH B:=by simp[iH]
theorem uV(h:T[i]?=some p):iH (T.take (i+1))=iH (T.take i)++rp p:=by
 rw[gF,h,sT];simp[iH]
theorem oF:∀(T:List Pv),(∀p∈T,p.items.length<=1048576)->(iH T).length<=T.length*2097153
 | [],_=>by simp[iH]
 |p::T,h=>by
  have h1:=oF T (λq hq=>h q (dY _ hq))
  have h2:=h p dN;rw[vd,ae,vR,bg];omega
theorem mK{t:Br}(h:t∈iH T):∃p∈T,t∈rp p:=by
 unfold iH at h;obtain⟨l,hl,ht⟩:=fW.1 h;obtain⟨p,hp,rfl⟩:=bG.1 hl;exact⟨p,hp,ht⟩
theorem uG{v:World}(hT:∀p∈T,Pn v w p)(hd:T.Pairwise Bdj):(iH T).Pairwise kH:=by
 unfold iH;refine List.pairwise_flatten.2 ⟨λl hl=>?_,gE.2 (hd.imp ?_)⟩
 . obtain⟨p,hp,rfl⟩:=bG.1 hl;exact(hT p hp).dist
 . intro p q h s hs t ht x y hx hy e;exact h x.block (.inr ⟨s,hs,x,hx,rfl⟩) (.inr ⟨t,ht,y,hy,e.symm⟩)
def Bro:Br:=⟨none,0,[]⟩
def oA(T:List Br)(i:Nat):Option Addr:=(T.getD i Bro).a
def oC(T:List Br)(i:Nat):Nat:=(T.getD i Bro).c
def oL(T:List Br)(i:Nat):List Nat:=(T.getD i Bro).l
theorem wS{T:List Br}(h:i<T.length):T.getD i Bro∈T:=by simp[h]
theorem Dx(T:List Br)(hi:i<T.length):(T.map bv)[i]?=some (.slice (oA T i) (oL T i).length (oC T i)):=by
 simp[hi,bv,oA,oL,oC]
theorem yA(T:List Br):T.map bv=(List.range T.length).map (λi=>Value.slice (oA T i) (oL T i).length (oC T i)):=by
 apply dS;intro i;by_cases hi:i<T.length
 . rw[Dx _ hi];simp only[dm,List.getElem?_range hi,gm]
 . rw[dz (by rw[a7];omega),dz (by rw[a7,eJ];omega)]
theorem u7(w:World)(a:Option Addr)(ct n:Nat)(T:List Br)(hn':n=T.length)(hA:Q.Gw 29 1 w a ct T.length (T.map bv))(hr:∀t∈T,Rw w t.a t.c t.l)(hp:T.Pairwise kH)(hn:T.length<=2932031007410)(hl:∀t∈T,t.l.length<=140737488355300):
 Calls Tryz.prog 30 #[.slice a n ct] w λx w'=>x=.returned (.bool true)/\But (λk=>∃t∈T,Q.InA t.a k) w w':=by
 subst hn'
 have hA:Ar w a ct (T.map bv):=by
  have e:(T.map bv).length=T.length:=a7 _;show w.ownsRow 0 29 1 (.slice a (T.map bv).length ct) (T.map bv).length (T.map bv);rw[e];exact hA
 rw[yA] at hA
 have hd:xg T.length (oA T):=by
  intro i j hi hj hne x y hx hy;have hp:=fw.1 hp;have ei:T.getD i Bro=T[i]:=by simp[hi]
  have ej:T.getD j Bro=T[j]:=by simp[hj]
  unfold oA at hx hy;rw[ei] at hx;rw[ej] at hy;rcases Nat.lt_or_gt_of_ne hne with h1|h1
  . exact hp i j hi hj h1 x y hx hy
  . exact λe=>hp j i hj hi h1 y x hy hx e.symm
 refine(x7 w a ct T.length (oA T) (oC T) (oL T) hA (λi hi=>hr _ (wS hi)) hd hn λi hi=>?_).mono ?_
 . have:=hl _ (wS hi);unfold oL;omega
 . rintro x w' ⟨rfl,hb⟩;exact⟨rfl,hb.mono (λk _ ⟨i,hi,y,hy,e⟩=>⟨_,wS hi,y,hy,e⟩)⟩
theorem AX(h:Smi p):∀t∈rp p,t.l.length<=140737488355300:=by
 intro t ht;rcases bT.1 ht with rfl|ht
 . have:=h.1.1;show p.data.length<=_;omega
 . unfold iB at ht;obtain⟨l,hl,ht⟩:=fW.1 ht;obtain⟨x,hx,rfl⟩:=bG.1 hl;have:=h.1.2 x hx;simp only[Iv.rows,bT,bB,gd] at ht;rcases ht with rfl|rfl
   . show x.key.length<=_;omega
   . show x.val.length<=_;omega
def iX(i:Nat):Iv:=⟨none,0,[],none,0,[],-3-(i:Int),0⟩
theorem zW{W:World}{t:TypeId}(h:W.heap[g]?=some (.cells #[.slice none 0 0,.slice none 0 0,.int .i64 (-3-(i:Int)),.int .i64 0,.slice none 0 0,.slice none 0 0,.int .i64 (-3-(i:Int)),.int .i64 0,.slice none 0 0,.slice none 0 0,.int .i64 (-3-(i:Int)),.int .i64 0] t (0,0))):∀j u,(Jc [iX i,iX i,iX i])[j]?=some u->W.cell? ((⟨g,0,none⟩:Addr).add j)=some u:=by
 intro j u hj;have e:Jc [iX i,iX i,iX i]=[.slice none 0 0,.slice none 0 0,.int .i64 (-3-(i:Int)),.int .i64 0,.slice none 0 0,.slice none 0 0,.int .i64 (-3-(i:Int)),.int .i64 0,.slice none 0 0,.slice none 0 0,.int .i64 (-3-(i:Int)),.int .i64 0]:=rfl;rw[e] at hj;rw[Addr.add_mid,bH,au _ _ _ _ _ _ h];simpa using hj
theorem zE(i:Nat):∀u∈Jc [iX i,iX i,iX i],u.oneCell'=true:=by
 intro u hu;have e:Jc [iX i,iX i,iX i]=[.slice none 0 0,.slice none 0 0,.int .i64 (-3-(i:Int)),.int .i64 0,.slice none 0 0,.slice none 0 0,.int .i64 (-3-(i:Int)),.int .i64 0,.slice none 0 0,.slice none 0 0,.int .i64 (-3-(i:Int)),.int .i64 0]:=rfl;rw[e] at hu;simp only[bT,bB,gd] at hu;rcases hu with rfl|rfl|rfl|rfl|rfl|rfl|rfl|rfl|rfl|rfl|rfl|rfl<;>rfl
theorem zU{L:List Iv}(h:Q.Gw 51 4 w a c n (Jc L))(hn:n=L.length):Jw w a c L:=by subst hn;exact h
end Go.Proofs.YtbdkogimlbnlmaaGreat
