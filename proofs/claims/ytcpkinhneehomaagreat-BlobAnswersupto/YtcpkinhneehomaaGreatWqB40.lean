import Derived.Test.YtcpkinhneehomaaGreatWqB39
set_option linter.unusedVariables false
set_option linter.unusedSimpArgs false
set_option maxHeartbeats 32000000
set_option maxRecDepth 16000
namespace Go.Proofs.YtcpkinhneehomaaGreat
open Go.RowKit
theorem lstore_any(v w:World)(wb b rb pb mb:Nat)(S:Vs)(D:Rd)(pc col colR:Nat->Nat)(K0:Bks)(h:St v w wb b rb pb mb S D pc col colR K0)(hr:Rel S.X D)(M:Nat)(hB:Bnd S M)(hKb:Kb K0 M)(hM:M<=1000000000000)(o:Ov)(ho:Fo w col colR o):
 Calls Tryz.prog 82 #[.pointer (some ⟨wb,0,none⟩),o.vl] w fun e w'=>Nxt v wb b rb pb mb M e w':=by
 have A0:=hide (al w (.cells o.cs 75));have X0:=hide (heap_alloc_new w (.cells o.cs 75));have HST:=hide h;have HR:=hide hr;have HKB:=hide hKb;have HO:=hide ho;have OLD:=hide h.old;have HVS:Hid (v.heap.size<=w.heap.size):=h.bl.size;have ZC:=hide fun(k:Nat)(hk:w.heap.size<=k)=>h.z2 hk
 have SK:=hide fun(W:World)(hb:Below w.heap.size w W)=>spare_g W o.aK o.cK o.key (ho.bk.keep hb) ho.lk
 have SV:=hide fun(W:World)(hb:Below w.heap.size w W)=>spare_g W o.aV o.cV o.val (ho.bv.keep hb) ho.lv
 have PSS:=hide fun(W:World)(hb:Below w.heap.size w W)(ak av:Option Addr)(ck cv:Nat)=>pStore v W wb b rb pb mb S D pc col colR K0 (h.keep hb) hr M hB hM ak av ck cv o.key o.val
 clear h hr hKb ho hB;have OV:Hid (o.vl=.agg o.cs):=rfl;rw[OV.out];have OC:Hid (o.cs=#[.int .i64 o.kind,.int .i64 o.n,.slice o.aK o.key.length o.cK,.slice o.aV o.val.length o.cV,.slice o.i.aK o.i.key.length o.i.cK,.slice o.i.aV o.i.val.length o.i.cV,.int .i64 o.i.child,.int .i64 o.i.size]):=rfl;rw[OC.out] at A0 X0 ⊢;go_enter Tryz.func82,Tryz.ntmps82;go_upto_region 1 with fail
 generalize hw1:w.alloc (.cells #[.int .i64 o.kind,.int .i64 o.n,.slice o.aK o.key.length o.cK,.slice o.aV o.val.length o.cV,.slice o.i.aK o.i.key.length o.i.cK,.slice o.i.aV o.i.val.length o.i.cV,.int .i64 o.i.child,.int .i64 o.i.size] 75)=w1 at *;clear hw1;obtain⟨gi,hgi⟩:∃gi,w.heap.size=gi:=⟨_,rfl⟩;have HGI:=hide hgi;simp only[hgi] at X0 ⊢;clear hgi;have DR:=hide (dr2 w1);have SS:Hid (∀W:World,Below w1.heap.size w1 W->W.cell? ⟨gi,2,none⟩=some (.slice o.aK o.key.length o.cK)/\W.cell? ⟨gi,3,none⟩=some (.slice o.aV o.val.length o.cV)):=fun W hb=>⟨(eight13 (blk13 X0.out hb)).2.2.1,(eight13 (blk13 X0.out hb)).2.2.2.1⟩
 refine wp_region_held_drew (S:=fun W=>W.cell? ⟨gi,2,none⟩=some (.slice o.aK o.key.length o.cK)/\W.cell? ⟨gi,3,none⟩=some (.slice o.aV o.val.length o.cV)) (by kernel_rfl) (SS.out _ DR.out) (fun hHeld=>?_)
 refine tk 0 ?_;refine tk 1 ?_;refine tk 3 ?_;refine tk 4 ?_;refine tw 2 fun K hK=>?_
 go_simp;refine(SK.out _ (bt A0.out DR.out)).mono ?_;rintro _ w2 ⟨gK,rfl,hn2,hr2,hb2⟩;have K2:=hide hr2;have NK:=hide hn2;have B2:=hide (bt DR.out hb2);clear hr2 hb2 hn2;go_wp2_with fail
 refine hK.out _ _ (SS.out _ B2.out) (fun hHeld=>?_)
 clear hK K;try simp only[pt]
 refine tw 5 fun K hK=>?_
 go_simp;refine(SV.out _ (bt A0.out B2.out)).mono ?_;rintro _ w3 ⟨gV,rfl,hn3,hr3,hb3⟩;have V3:=hide hr3;have K3:=hide (rowIs_below K2.out hb3);have B3:=hide (bt B2.out hb3);have NE:Hid (w1.heap.size<=gK/\gK<gV/\gV<w3.heap.size):=⟨NK.out,Nat.lt_of_lt_of_le K2.out.lt hn3,hr3.lt⟩;clear hr3 hb3 hn3;go_wp2_with fail
 refine hK.out _ _ (SS.out _ B3.out) (fun hHeld=>?_)
 clear hK K;try simp only[pt]
 refine tk 6 ?_;refine tk 7 ?_;refine td ?_;clear hHeld SS DR SK SV K2 NK B2;have L1:Hid (gi<w1.heap.size):=(Array.getElem?_eq_some_iff.1 X0.out).1;have X3:=hide (blk13 X0.out B3.out);have W3:=hide (bt A0.out B3.out);have O3:=hide (HO.out.keep W3.out);have CK:=hide (ZC.out gK (by have:=HGI.out;have:=L1.out;have:=NE.out;omega))
 have CV:=hide (ZC.out gV (by have:=HGI.out;have:=L1.out;have:=NE.out;omega))
 have CG:=hide (ZC.out gi (by have:=HGI.out;omega))
 have PS:=hide (PSS.out w3 W3.out (some ⟨gK,0,none⟩) (some ⟨gV,0,none⟩) (o.key.length+64) (o.val.length+64) (spare_bs K3.out (Nat.le_add_right _ _) HO.out.bk.1 HO.out.bk.2.1) (fun x hx=>by cases hx;exact CK.out.1) (spare_bs V3.out (Nat.le_add_right _ _) HO.out.bv.1 HO.out.bv.2.1) (fun x hx=>by cases hx;exact CV.out.1) (Nat.le_add_right _ _))
 obtain⟨q0,q1,q2,q3,q4,q5⟩:=(HST.out.keep W3.out).cells;clear PSS X0 A0 B3;go_wp2_with fail
 refine PS.out.mono ?_;rintro _ w4 ⟨er,x,S4,pc4,col4,rfl,hS4,hP4,hB4,hN4,hA4,hF4⟩;have P4:=hide hP4;have BN4:=hide hB4;have NX4:=hide hN4;have AX:=hide hA4;have F4:=hide hF4;have K4:=hide (rowIs_but K3.out hF4.b (fun e=>by have:=CK.out.1;omega))
 have V4:=hide (rowIs_but V3.out hF4.b (fun e=>by have:=CV.out.1;omega))
 have X4:=hide (hF4.box X3.out CG.out.1);have O4:=hide (O3.out.vf hF4);have C4:Hid (col4 gK=0/\col4 gV=0/\col4 gi=0):=⟨(hF4.c _ K3.out.lt).trans CK.out.1,(hF4.c _ V3.out.lt).trans CV.out.1,(hF4.c _ (Array.getElem?_eq_some_iff.1 X3.out).1).trans CG.out.1⟩;have CR:Hid (colR gK=0/\colR gV=0/\colR gi=0):=⟨CK.out.2,CV.out.2,CG.out.2⟩;have Y0:=hide (heap_alloc_new w4 (.cells #[.slice none 0 0,.slice none 0 0,.int .i64 0,.int .i64 0] 51));have Z0:=hide (al w4 (.cells #[.slice none 0 0,.slice none 0 0,.int .i64 0,.int .i64 0] 51));have K5:=hide (below_row #[.slice x.aK x.key.length x.cK,.slice x.aV x.val.length x.cV,.int .i64 x.child,.int .i64 x.size] Z0.out (g:=w4.heap.size) (Nat.le_refl _));have Y5:Hid (((w4.alloc (.cells #[.slice none 0 0,.slice none 0 0,.int .i64 0,.int .i64 0] 51)).setRow w4.heap.size #[.slice x.aK x.key.length x.cK,.slice x.aV x.val.length x.cV,.int .i64 x.child,.int .i64 x.size]).heap[w4.heap.size]?=some (.cells #[.slice x.aK x.key.length x.cK,.slice x.aV x.val.length x.cV,.int .i64 x.child,.int .i64 x.size] 51 (0,0))):=setRow_heap _ _ _ _ _ _ Y0.out;have H5:=hide (hS4.keep K5.out);have CX:=hide (hS4.z2 (Nat.le_refl w4.heap.size));have XV:Hid (x.vl=.agg #[.slice x.aK x.key.length x.cK,.slice x.aV x.val.length x.cV,.int .i64 x.child,.int .i64 x.size]):=rfl;rw[XV.out];have L4:Hid (w3.heap.size<=w4.heap.size):=hF4.b.size;clear hS4 hP4 hB4 hN4 hA4 hF4 K3 V3 X3 O3 PS q0 q1 q2 q3 q4 q5 HST;go_upto_region 3 with(first|(refine wpList_store_row rfl 51 _ _ rfl w4.heap.size _ rfl rfl 51 _ Y0.out sizeItem rfl (by simp[Value.oneCell']) ?_)|fail)
 generalize hw5:(w4.alloc (.cells #[.slice none 0 0,.slice none 0 0,.int .i64 0,.int .i64 0] 51)).setRow w4.heap.size #[.slice x.aK x.key.length x.cK,.slice x.aV x.val.length x.cV,.int .i64 x.child,.int .i64 x.size]=w5 at *;clear hw5 Y0 Z0;have N5:=hide (NX4.out.keep K5.out);have R5:=hide (rowIs_below K4.out K5.out);have V5:=hide (rowIs_below V4.out K5.out);have X5:=hide (blk13 X4.out K5.out);have O5:=hide (O4.out.keep K5.out);obtain⟨gx,hgx⟩:∃gx,w4.heap.size=gx:=⟨_,rfl⟩;have HGX:=hide hgx;simp only[hgx] at Y5 CX ⊢;clear hgx NX4 K4 V4 X4 O4;have OL5:Hid (Old w5.heap.size wb K0):=H5.out.old;have V5S:Hid (v.heap.size<=w5.heap.size):=H5.out.bl.size;go_cut [9,10] from 29 to 40 (fun p9 v10 wx=>∃(gj:Nat)(er2:Int)(y:Iv)(D2:Rd)(colR2:Nat->Nat),p9=.pointer (some ⟨gj,0,none⟩)/\v10=.int .i64 er2/\DsQ v w5 wb b rb pb mb S4 D pc4 col4 colR K0 o.key o.val gj er2 y D2 colR2 wx)
 case first=>
  have DR:=hide (dr2 w5);have SS:Hid (∀W:World,Below w5.heap.size w5 W->W.cell? ⟨wb,1,none⟩=some (.pointer (some ⟨rb,0,none⟩))/\W.cell? ⟨gi,2,none⟩=some (.slice o.aK o.key.length o.cK)/\W.cell? ⟨gi,3,none⟩=some (.slice o.aV o.val.length o.cV)):=fun W hb=>⟨((H5.out.keep hb).cells).2.1,(eight13 (blk13 X5.out hb)).2.2.1,(eight13 (blk13 X5.out hb)).2.2.2.1⟩
  have DS:=hide fun(W:World)(hb:Below w5.heap.size w5 W)=>dStore v W wb b rb pb mb S4 D pc4 col4 colR K0 (H5.out.keep hb) o.aK o.aV o.cK o.cV o.key o.val (O5.out.keep hb).bk (O5.out.keep hb).bv (fun x hx h0=>(O5.out.nv x hx h0).2) O5.out.cv
  refine wp_region_held_drew (S:=fun W=>W.cell? ⟨wb,1,none⟩=some (.pointer (some ⟨rb,0,none⟩))/\W.cell? ⟨gi,2,none⟩=some (.slice o.aK o.key.length o.cK)/\W.cell? ⟨gi,3,none⟩=some (.slice o.aV o.val.length o.cV)) (by kernel_rfl) (SS.out _ DR.out) (fun hHeld=>?_)
  refine tk 0 ?_;refine tk 1 ?_;refine tk 2 ?_;refine tk 3 ?_;refine tk 4 ?_;refine tk 5 ?_;refine tk 6 ?_;refine tk 7 ?_;refine wpAnyH_ready (rs:=[8,12]) (by kernel_rfl) (by simp) ?_
  refine(AllReadyH.cons rfl (fun K hK=>?_) (AllReadyH.cons rfl (fun K hK=>?_) AllReadyH.nil))
  · go_simp;refine(DS.out _ DR.out).mono ?_;rintro _ w6 ⟨er2,y,D2,colR2,rfl,hS6,hD6,hN6,hF6⟩;have SD:=hide hD6;have H6:=hide hS6;have NY:=hide hN6;have F6:=hide ((Vf.keep DR.out).trans hF6);have X6:=hide (F6.out.box X5.out CR.out.2.2);have YV:Hid (y.vl=.agg #[.slice y.aK y.key.length y.cK,.slice y.aV y.val.length y.cV,.int .i64 y.child,.int .i64 y.size]):=rfl;rw[YV.out];clear hS6 hD6 hN6 hF6;go_wp2_with fail
    refine hK.out _ _ ⟨(H6.out.cells).2.1,(eight13 X6.out).2.2.1,(eight13 X6.out).2.2.2.1⟩ (fun hHeld=>?_)
    clear hK K;try simp only[pt]
    refine tk 9 ?_;refine tk 10 ?_;refine tk 11 ?_;refine tw 12 fun K hK=>?_
    go_simp;have AL:=hide (al w6 (.cells #[.slice none 0 0,.slice none 0 0,.int .i64 0,.int .i64 0] 51));have XJ:=hide (heap_alloc_new w6 (.cells #[.slice none 0 0,.slice none 0 0,.int .i64 0,.int .i64 0] 51));have HZ:=hide (H6.out.keep AL.out);have XIZ:=hide (blk13 X6.out AL.out);have NYZ:Hid (Nw w5 (w6.alloc (.cells #[.slice none 0 0,.slice none 0 0,.int .i64 0,.int .i64 0] 51)) col4 colR2 y):=(NY.out.mono DR.out.size).keep AL.out;have FZ:=hide (F6.out.trans (Vf.keep (c:=colR2) AL.out));have NJ:Hid ((col4 w6.heap.size=0/\colR2 w6.heap.size=0/\w5.heap.size<=w6.heap.size)/\gi≠w6.heap.size):=⟨⟨(H6.out.z2 (Nat.le_refl _)).1,(H6.out.z2 (Nat.le_refl _)).2,F6.out.b.size⟩,Nat.ne_of_lt (Array.getElem?_eq_some_iff.1 X6.out).1⟩;refine hK.out _ _ ⟨(HZ.out.cells).2.1,(eight13 XIZ.out).2.2.1,(eight13 XIZ.out).2.2.2.1⟩ (fun hHeld=>?_)
    clear hK K AL H6 NY F6 X6;try simp only[pt]
    generalize hw7:w6.alloc (.cells #[.slice none 0 0,.slice none 0 0,.int .i64 0,.int .i64 0] 51)=w7 at *;clear hw7;generalize w6.heap.size=gj at *;refine tw 13 fun K hK=>?_
    rw[if_pos (by rfl)]
    refine wp_store_row 51 _ _ rfl gj _ rfl rfl 51 _ XJ.out sizeItem rfl (by simp[Value.oneCell']) ?_
    have SB:=hide (setRow_butv w7 gj #[.slice y.aK y.key.length y.cK,.slice y.aV y.val.length y.cV,.int .i64 y.child,.int .i64 y.size]);have XI8:=hide (SB.out.same XIZ.out (fun e=>NJ.out.2 e))
    have H8:=hide (HZ.out.far (n:=w5.heap.size) OL5.out V5S.out SB.out (fun k e=>by subst e;exact⟨NJ.out.1.1,NJ.out.1.2.1,NJ.out.1.2.2⟩))
    refine hK.out _ _ ⟨(H8.out.cells).2.1,(eight13 XI8.out).2.2.1,(eight13 XI8.out).2.2.2.1⟩ (fun hHeld=>?_)
    clear hK K;try simp only[pt]
    refine tk 14 ?_;refine td ?_;clear hHeld;go_wp2_with fail
    go_meet
    case rel=>exact⟨gj,er2,y,D2,colR2,rfl,rfl,setRow_heap _ _ _ _ _ _ XJ.out,H8.out,SD.out,⟨NYZ.out.k.but SB.out (fun p hp e=>NYZ.out.k.nty13 (t:=51) XJ.out (by decide) hp e),NYZ.out.v.but SB.out (fun p hp e=>NYZ.out.v.nty13 (t:=51) XJ.out (by decide) hp e),NYZ.out.kc,NYZ.out.vc,NYZ.out.k8,NYZ.out.v8,NYZ.out.nc,NYZ.out.ns⟩,⟨FZ.out.b.trans SB.out (fun k hk e=>by have:=NJ.out.1.2.2;omega),FZ.out.c⟩,NJ.out.1.2.2⟩
  · go_simp;have AL:=hide (bt (al w5 (.cells #[.slice none 0 0,.slice none 0 0,.int .i64 0,.int .i64 0] 51)) (dr2 (w5.alloc (.cells #[.slice none 0 0,.slice none 0 0,.int .i64 0,.int .i64 0] 51))));have XJ0:Hid ((w5.alloc (.cells #[.slice none 0 0,.slice none 0 0,.int .i64 0,.int .i64 0] 51)).drew.heap[w5.heap.size]?=some (.cells #[.slice none 0 0,.slice none 0 0,.int .i64 0,.int .i64 0] 51 (0,0))):=heap_alloc_new w5 (.cells #[.slice none 0 0,.slice none 0 0,.int .i64 0,.int .i64 0] 51);refine hK.out _ _ (SS.out _ AL.out) (fun hHeld=>?_)
    clear hK K;try simp only[pt]
    have NJ0:Hid (gi≠w5.heap.size):=Nat.ne_of_lt (Array.getElem?_eq_some_iff.1 X5.out).1;generalize hw6:(w5.alloc (.cells #[.slice none 0 0,.slice none 0 0,.int .i64 0,.int .i64 0] 51)).drew=w6 at *;clear hw6;obtain⟨gj,hgj⟩:∃gj,w5.heap.size=gj:=⟨_,rfl⟩;have GJ:Hid (w5.heap.size<=gj):=Nat.le_of_eq hgj;rw[hgj] at NJ0 XJ0;rw[hgj];clear hgj;refine tw 8 fun K hK=>?_
    go_simp;refine(DS.out _ AL.out).mono ?_;rintro _ w7 ⟨er2,y,D2,colR2,rfl,hS6,hD6,hN6,hF6⟩;have SD:=hide hD6;have HZ:=hide hS6;have NYZ:=hide (hN6.mono AL.out.size);have FZ:=hide ((Vf.keep AL.out).trans hF6);have CJ:=hide ((H5.out.z2 GJ.out).2);have CJ4:=hide ((H5.out.z2 GJ.out).1);have XJ:=hide (hF6.box XJ0.out CJ.out);have NJ:Hid ((col4 gj=0/\colR2 gj=0/\w5.heap.size<=gj)/\gi≠gj):=⟨⟨CJ4.out,(hF6.c _ (Array.getElem?_eq_some_iff.1 XJ0.out).1).trans CJ.out,GJ.out⟩,NJ0.out⟩;have XIZ:=hide (FZ.out.box X5.out CR.out.2.2);have YV:Hid (y.vl=.agg #[.slice y.aK y.key.length y.cK,.slice y.aV y.val.length y.cV,.int .i64 y.child,.int .i64 y.size]):=rfl;rw[YV.out];clear hS6 hD6 hN6 hF6 XJ0;go_wp2_with fail
    refine hK.out _ _ ⟨(HZ.out.cells).2.1,(eight13 XIZ.out).2.2.1,(eight13 XIZ.out).2.2.2.1⟩ (fun hHeld=>?_)
    clear hK K;try simp only[pt]
    refine tk 9 ?_;refine tk 10 ?_;refine tk 11 ?_;refine tw 13 fun K hK=>?_
    rw[if_pos (by rfl)]
    refine wp_store_row 51 _ _ rfl gj _ rfl rfl 51 _ XJ.out sizeItem rfl (by simp[Value.oneCell']) ?_
    have SB:=hide (setRow_butv w7 gj #[.slice y.aK y.key.length y.cK,.slice y.aV y.val.length y.cV,.int .i64 y.child,.int .i64 y.size]);have XI8:=hide (SB.out.same XIZ.out (fun e=>NJ.out.2 e))
    have H8:=hide (HZ.out.far (n:=w5.heap.size) OL5.out V5S.out SB.out (fun k e=>by subst e;exact⟨NJ.out.1.1,NJ.out.1.2.1,NJ.out.1.2.2⟩))
    refine hK.out _ _ ⟨(H8.out.cells).2.1,(eight13 XI8.out).2.2.1,(eight13 XI8.out).2.2.2.1⟩ (fun hHeld=>?_)
    clear hK K;try simp only[pt]
    refine tk 14 ?_;refine td ?_;clear hHeld;go_wp2_with fail
    go_meet
    case rel=>exact⟨gj,er2,y,D2,colR2,rfl,rfl,setRow_heap _ _ _ _ _ _ XJ.out,H8.out,SD.out,⟨NYZ.out.k.but SB.out (fun p hp e=>NYZ.out.k.nty13 (t:=51) XJ.out (by decide) hp e),NYZ.out.v.but SB.out (fun p hp e=>NYZ.out.v.nty13 (t:=51) XJ.out (by decide) hp e),NYZ.out.kc,NYZ.out.vc,NYZ.out.k8,NYZ.out.v8,NYZ.out.nc,NYZ.out.ns⟩,⟨FZ.out.b.trans SB.out (fun k hk e=>by have:=NJ.out.1.2.2;omega),FZ.out.c⟩,NJ.out.1.2.2⟩
 case rest=>
  obtain⟨gj,er2,y,D2,colR2,rfl,rfl,hQ⟩:=hcut;obtain⟨ee,eit,hrel⟩:=HR.out.sto P4.out hQ.d;subst ee;have R6:=hide hrel;have IT:=hide eit;have Q6:=hide hQ;clear hQ hrel eit P4 HR;generalize wc=w6 at *;have YB:=hide Q6.out.box;have NY6:=hide Q6.out.nw;have XB:=hide (Q6.out.f.box Y5.out CX.out.2);have NX6:=hide (N5.out.vfR Q6.out.f);have K6:=hide (rowIs_but R5.out Q6.out.f.b (fun e=>by have:=CR.out.1;omega))
  have V6:=hide (rowIs_but V5.out Q6.out.f.b (fun e=>by have:=CR.out.2.1;omega))
  have OO:=hide (O5.out.vf2 Q6.out.f);have XO:=hide (Q6.out.f.box X5.out CR.out.2.2);have H6:=hide Q6.out.st;have CRR:Hid (colR2 gK=0/\colR2 gV=0):=⟨(Q6.out.f.c _ R5.out.lt).trans CR.out.1,(Q6.out.f.c _ V5.out.lt).trans CR.out.2.1⟩
  have GG:Hid (gi<gK/\gK<gV/\gV<w3.heap.size/\w3.heap.size<=gx/\gx<gj/\w3.heap.size<=w5.heap.size):=by
   have h1:=NE.out;have h2:=L1.out;have h3:=L4.out;have h4:=HGX.out;have h5:=Q6.out.n;have h6:gx<w5.heap.size:=(Array.getElem?_eq_some_iff.1 Y5.out).1;exact⟨by omega,h1.2.1,h1.2.2,by omega,by omega,by omega⟩
  clear Q6 Y5 R5 V5 X5 N5 H5 CX;have EI:=hide (EqItem_same w6 x y NX6.out.ii NY6.out.ii IT.out);rw[XV.out,show y.vl=.agg #[.slice y.aK y.key.length y.cK,.slice y.aV y.val.length y.cV,.int .i64 y.child,.int .i64 y.size] from rfl] at EI
  have dEr:((er:Int) != (er:Int))=false:=by simp
  obtain⟨x0,x1,x2,x3⟩:=four13 XB.out;obtain⟨y0,y1,y2,y3⟩:=four13 YB.out;go_wp2_with fail
  refine EI.out.mono ?_;rintro _ w7 ⟨rfl,hb7⟩;have B7:=hide hb7;have KK:=hide (Kept_any w7 gK (o.key.length+64) o.aK o.key.length o.key.length o.cK o.key (rowIs_below K6.out hb7) (OO.out.1.keep hb7) rfl rfl rfl (by have:=HO.out.lk;omega))
  obtain⟨z0,z1,z2,z3,z4,z5,z6,z7⟩:=eight13 (blk13 XO.out hb7);clear hb7 EI x0 x1 x2 x3 y0 y1 y2 y3;go_wp2_with fail
  refine KK.out.mono ?_;rintro _ w8 ⟨rfl,hb8⟩;have B8':=hide (bt B7.out hb8);have KV:=hide (Kept_any w8 gV (o.val.length+64) o.aV o.val.length o.val.length o.cV o.val (rowIs_below V6.out B8'.out) (OO.out.2.keep B8'.out) rfl rfl rfl (by have:=HO.out.lv;omega))
  clear hb8 KK z0 z1 z2 z3 z4 z5 z6 z7;obtain⟨z0,z1,z2,z3,z4,z5,z6,z7⟩:=eight13 (blk13 XO.out B8'.out);go_wp2_with fail
  refine KV.out.mono ?_;rintro _ w9 ⟨rfl,hb9⟩;have B9:=hide (bt B8'.out hb9);clear hb9 KV z0 z1 z2 z3 z4 z5 z6 z7 B7 B8' OO XO;have H9:=hide (H6.out.keep B9.out);have V9:=hide (rowIs_below V6.out B9.out);have K9:=hide (rowIs_below K6.out B9.out);have NX9:=hide (NX6.out.keep B9.out);have NY9:=hide (NY6.out.keep B9.out);have XB9:=hide (blk13 XB.out B9.out);have YB9:=hide (blk13 YB.out B9.out);clear H6 V6 K6 NX6 NY6 XB YB B9;obtain⟨n,hn⟩:∃n,o.val.length=n:=⟨_,rfl⟩;obtain⟨m,hm⟩:∃m,o.key.length=m:=⟨_,rfl⟩;have HN:=hide hn;have HMM:=hide hm;rw[hn] at V9 ⊢;rw[hm] at K9 ⊢;have hnb:n+64<=140737488355328:=by have:=HO.out.lv;rw[hn] at this;exact this
  have hmb:m+64<=140737488355328:=by have:=HO.out.lk;rw[hm] at this;exact this
  clear hn hm;have I8:Hid (B8 o.val):=HO.out.bv.1;have J8:Hid (B8 o.key):=HO.out.bk.1;go_wp2_with fail
  go_loopw [11] (fun vj wx=>∃(j:Nat)(l:List Nat),j<=n/\vj=.int .i64 (j:Int)/\l.length=n/\B8 l/\wx.rowIs gV 5 (n+64) (spF l)/\But (fun k=>k=gV) w9 wx) (fun vj _=>n-(intOf vj).toNat)
  case atStart=>exact⟨0,o.val,Nat.zero_le _,rfl,HN.out,I8.out,V9.out,But.refl _ _⟩
  case round=>
   obtain⟨j,l,hj,rfl,hll,hl8,hRow,hBt⟩:=hrel;have LL:=hide hll;have L8:=hide hl8;have RW:=hide hRow;have BT:=hide hBt;clear hll hl8 hRow hBt;by_cases hlt:j<n
   · have hji:(j:Int)<(n:Int):=by omega
     have hjl:j<l.length:=by rw[LL.out];exact hlt
     have cV:=RW.out.cell (i:=j) (by omega)
     have fV:=RW.out.frozen j;have hsp:spF l j=.int .u8 ((l.getD j 0:Nat):Int):=if_pos hjl;rw[hsp] at cV;have h8:l.getD j 0<256:=L8.out _ (by simp[hjl])
     obtain⟨q,hq⟩:∃q,l.getD j 0=q:=⟨_,rfl⟩;rw[hq] at cV h8;clear hsp hq;obtain⟨z,hz,hz8⟩:∃z:Nat,bits .xor .u8 ((q:Nat):Int) 17=((z:Nat):Int)/\z<256:=⟨q ^^^ 17,u8_xor_nat q 17 h8 (by decide),Nat.xor_lt_two_pow (n:=8) h8 (by decide)⟩
     have R2:Hid ((wr.setCell ⟨gV,j,none⟩ (.int .u8 ((z:Nat):Int))).rowIs gV 5 (n+64) (spF (l.set j z))):=(RW.out.set j (.int .u8 ((z:Nat):Int))).congr (fun t _=>spF_set hjl t)
     have B2:Hid (But (fun k=>k=gV) w9 (wr.setCell ⟨gV,j,none⟩ (.int .u8 ((z:Nat):Int)))):=BT.out.setCell (p:=⟨gV,j,none⟩) (fun _=>rfl) _
     have HZ:=hide hz8;go_wp2_with fail
     generalize hwn:wr.setCell ⟨gV,j,none⟩ (.int .u8 ((z:Nat):Int))=wn at *;clear hwn;go_roundw
     case rel=>exact⟨j+1,l.set j z,by omega,by go_num,by rw[List.length_set];exact LL.out,(fun t ht=>by
      rcases List.mem_or_eq_of_mem_set ht with ht|rfl
      · exact L8.out t ht
      · exact HZ.out),R2.out,B2.out⟩
     case measure=>simp[intOf];omega
   · obtain rfl:j=n:=by omega
     have BTV:=hide BT.out;clear LL L8 RW BT;generalize hwr:wr=w10 at *;clear hwr;have K10:=hide (rowIs_but K9.out BTV.out (fun e=>by have:=GG.out;omega))
     have HVN:Hid (o.val.length=j):=HN.out;go_wp2_with fail
     go_loopw [12] (fun vj wx=>∃(k2:Nat)(l:List Nat),k2<=m/\vj=.int .i64 (k2:Int)/\l.length=m/\B8 l/\wx.rowIs gK 5 (m+64) (spF l)/\But (fun k=>k=gK) w10 wx) (fun vj _=>m-(intOf vj).toNat)
     case atStart=>exact⟨0,o.key,Nat.zero_le _,rfl,HMM.out,J8.out,K10.out,But.refl _ _⟩
     case round=>
      obtain⟨k2,l,hj,rfl,hll,hl8,hRow,hBt⟩:=hrel;have LL:=hide hll;have L8:=hide hl8;have RW:=hide hRow;have BT:=hide hBt;clear hll hl8 hRow hBt;by_cases hlt:k2<m
      · have hji:(k2:Int)<(m:Int):=by omega
        have hjl:k2<l.length:=by rw[LL.out];exact hlt
        have cV:=RW.out.cell (i:=k2) (by omega)
        have fV:=RW.out.frozen k2;have hsp:spF l k2=.int .u8 ((l.getD k2 0:Nat):Int):=if_pos hjl;rw[hsp] at cV;have h8:l.getD k2 0<256:=L8.out _ (by simp[hjl])
        obtain⟨q,hq⟩:∃q,l.getD k2 0=q:=⟨_,rfl⟩;rw[hq] at cV h8;clear hsp hq;obtain⟨z,hz,hz8⟩:∃z:Nat,bits .xor .u8 ((q:Nat):Int) 17=((z:Nat):Int)/\z<256:=⟨q ^^^ 17,u8_xor_nat q 17 h8 (by decide),Nat.xor_lt_two_pow (n:=8) h8 (by decide)⟩
        have R2:Hid ((wr.setCell ⟨gK,k2,none⟩ (.int .u8 ((z:Nat):Int))).rowIs gK 5 (m+64) (spF (l.set k2 z))):=(RW.out.set k2 (.int .u8 ((z:Nat):Int))).congr (fun t _=>spF_set hjl t)
        have B2:Hid (But (fun k=>k=gK) w10 (wr.setCell ⟨gK,k2,none⟩ (.int .u8 ((z:Nat):Int)))):=BT.out.setCell (p:=⟨gK,k2,none⟩) (fun _=>rfl) _
        have HZ:=hide hz8;go_wp2_with fail
        generalize hwn:wr.setCell ⟨gK,k2,none⟩ (.int .u8 ((z:Nat):Int))=wn at *;clear hwn;go_roundw
        case rel=>exact⟨k2+1,l.set k2 z,by omega,by go_num,by rw[List.length_set];exact LL.out,(fun t ht=>by
         rcases List.mem_or_eq_of_mem_set ht with ht|rfl
         · exact L8.out t ht
         · exact HZ.out),R2.out,B2.out⟩
        case measure=>simp[intOf];omega
      · obtain rfl:k2=m:=by omega
        have BTW:Hid (But (fun k=>k=gV\/k=gK) w9 wr):=(BTV.out.mono (T:=fun k=>k=gV\/k=gK) (fun k _ e=>.inl e)).trans BT.out (fun k _ e=>.inr e)
        clear LL L8 RW BT;generalize hwr:wr=w11 at *;clear hwr
        have H11:=hide (H9.out.far (n:=gi) (by rw[<-HGI.out];exact OLD.out) (by rw[<-HGI.out];exact HVS.out) BTW.out (fun k e=>by
         have h1:=GG.out;rcases e with rfl|rfl
         · exact⟨C4.out.2.1,CRR.out.2,by omega⟩
         · exact⟨C4.out.1,CRR.out.1,by omega⟩))
        have NX11:=hide (NX9.out.but BTW.out (fun k e=>by have h1:=GG.out;omega))
        have NY11:=hide (NY9.out.but BTW.out (fun k e=>by have h1:=GG.out;omega))
        have XB11:=hide (BTW.out.same XB9.out (fun e=>by have h1:=GG.out;omega))
        have YB11:=hide (BTW.out.same YB9.out (fun e=>by have h1:=GG.out;omega))
        have OL11:Hid (∀t∈K0.T++rowsOf K0.B,∀y,t.a=some y->y.block<w3.heap.size):=fun t ht y hy=>by
         have h1:=OLD.out.r1 t ht y hy;have h2:=HGI.out;have h3:=GG.out;omega
        have VS3:Hid (v.heap.size<=w3.heap.size):=by
         have h1:=HVS.out;have h2:=HGI.out;have h3:=GG.out;show _<=_;omega
        clear H9 NX9 NY9 XB9 YB9 BTW BTV;by_cases he:er=0
        · subst he;have heb:((0:Int)==(0:Int))=true:=rfl;obtain⟨q0,q1,q2,q3,q4,q5⟩:=H11.out.cells;have hL:K0.B.length+1<=2199023255489:=by have:=HKB.out.b;omega
          have HL2:Hid (K0.N.length+1<=2199023255489):=by
           have e:=congrArg List.length H11.out.e2;rw[List.length_map,List.length_map] at e;show _<=_;omega
          have wbl:wb<w11.heap.size:=block_lt_of_cell q2;obtain⟨x0,x1,x2,x3⟩:=four13 XB11.out;have A12:=hide (bt (al w11 (.cells #[.slice x.aK x.key.length x.cK,.slice x.aV x.val.length x.cV,.int .i64 x.child,.int .i64 x.size] 51)) (dr2 (w11.alloc (.cells #[.slice x.aK x.key.length x.cK,.slice x.aV x.val.length x.cV,.int .i64 x.child,.int .i64 x.size] 51))));have X12:Hid ((w11.alloc (.cells #[.slice x.aK x.key.length x.cK,.slice x.aV x.val.length x.cV,.int .i64 x.child,.int .i64 x.size] 51)).drew.heap[w11.heap.size]?=some (.cells x.cs 51 (0,0))):=heap_alloc_new w11 (.cells #[.slice x.aK x.key.length x.cK,.slice x.aV x.val.length x.cV,.int .i64 x.child,.int .i64 x.size] 51);have J12:=hide (H11.out.jb.keep A12.out);have FIN:Hid (∀(g5 c5:Nat)(w5:World),Jw w5 (some ⟨g5,0,none⟩) c5 (K0.B++[x])->New (w11.alloc (.cells #[.slice x.aK x.key.length x.cK,.slice x.aV x.val.length x.cV,.int .i64 x.child,.int .i64 x.size] 51)).drew K0.aB (some ⟨g5,0,none⟩)->(w11.alloc (.cells #[.slice x.aK x.key.length x.cK,.slice x.aV x.val.length x.cV,.int .i64 x.child,.int .i64 x.size] 51)).drew.grownBy w5 (K0.aB.map Addr.block)->w5.frozen? ⟨wb,2,none⟩=false/\w5.cell? ⟨wb,2,none⟩=some (.slice K0.aB K0.B.length K0.cB)/\Apn w11 (w5.setCell ⟨wb,2,none⟩ (.slice (some ⟨g5,0,none⟩) (K0.B.length+1) c5)) wb #[.pointer (some ⟨b,0,none⟩),.pointer (some ⟨rb,0,none⟩),.slice K0.aB K0.B.length K0.cB,.slice K0.aN K0.N.length K0.cN,.slice K0.aT (K0.T.map bv).length K0.cT,.slice K0.aX (K0.X.map bv).length K0.cX] 2 K0.aB K0.B x g5 c5):=fun g5 c5 w5 hJ hN hg=>ap_set 2 H11.out.box H11.out.jb A12.out hJ hN hg
          clear q0 q1 q3 q4 q5;go_upto_region 15 with fail
          go_cut [9] from 94 to 103 (fun p9 wx=>∃(g1 c1:Nat),p9=.pointer (some ⟨gj,0,none⟩)/\Apn w11 wx wb #[.pointer (some ⟨b,0,none⟩),.pointer (some ⟨rb,0,none⟩),.slice K0.aB K0.B.length K0.cB,.slice K0.aN K0.N.length K0.cN,.slice K0.aT (K0.T.map bv).length K0.cT,.slice K0.aX (K0.X.map bv).length K0.cX] 2 K0.aB K0.B x g1 c1)
          case first=>
           go_region_law
            (refine step_apJ13 rfl _ _ rfl K0.aB K0.B.length K0.cB K0.B (by first|(simp[Act.eval];done)|simp[Act.eval,Act.put]) rfl J12.out ⟨w11.heap.size,0,none⟩ 1 x (by first|(simp[Act.eval];done)|simp[Act.eval,Act.put]) (item_cells13 X12.out) hL ?_
             intro g5 c5 w5 hJ hN hg;obtain⟨fS,cS,r6⟩:=FIN.out g5 c5 w5 hJ hN hg;have R6':=hide r6;clear hJ hN hg r6)
           all_goals
            clear fS cS FIN;go_wp2_with fail
            go_meet
            case rel=>exact⟨g5,c5,rfl,R6'.out⟩
          case rest=>
           obtain⟨g1,c1,rfl,hap⟩:=hcut;have P1:=hide hap;clear hap FIN A12 X12 J12 q2 x0 x1 x2 x3;generalize wc=w12 at*
           have YB12:=hide (P1.out.b.same YB11.out (fun e=>by
            rcases e with⟨z,hz,e⟩|e
            · have h1:=OLD.out.aB z hz;have h2:=HGI.out;have h3:=GG.out;omega
            · have h1:=OLD.out.wb;have h2:=HGI.out;have h3:=GG.out;omega))
           have JN12:Hid (Jw w12 K0.aN K0.cN K0.N):=H11.out.jn.but P1.out.b (fun z hz e=>by
            rcases e with⟨q,hq,e⟩|e
            · exact H11.out.nBN q z hq hz e
            · exact H11.out.jn.nty13 (t:=78) H11.out.box (by decide) hz e)
           have BX12:Hid (w12.heap[wb]?=some (.cells #[.pointer (some ⟨b,0,none⟩),.pointer (some ⟨rb,0,none⟩),.slice (some ⟨g1,0,none⟩) (K0.B.length+1) c1,.slice K0.aN K0.N.length K0.cN,.slice K0.aT (K0.T.map bv).length K0.cT,.slice K0.aX (K0.X.map bv).length K0.cX] 78 (0,0))):=P1.out.box;obtain⟨q0,q1,q2,q3,q4,q5⟩:=six_cells BX12.out;obtain⟨y0,y1,y2,y3⟩:=four13 YB12.out;have wbl2:wb<w12.heap.size:=block_lt_of_cell q2;have A13:=hide (bt (al w12 (.cells #[.slice y.aK y.key.length y.cK,.slice y.aV y.val.length y.cV,.int .i64 y.child,.int .i64 y.size] 51)) (dr2 (w12.alloc (.cells #[.slice y.aK y.key.length y.cK,.slice y.aV y.val.length y.cV,.int .i64 y.child,.int .i64 y.size] 51))));have X13:Hid ((w12.alloc (.cells #[.slice y.aK y.key.length y.cK,.slice y.aV y.val.length y.cV,.int .i64 y.child,.int .i64 y.size] 51)).drew.heap[w12.heap.size]?=some (.cells y.cs 51 (0,0))):=heap_alloc_new w12 (.cells #[.slice y.aK y.key.length y.cK,.slice y.aV y.val.length y.cV,.int .i64 y.child,.int .i64 y.size] 51);have J13:=hide (JN12.out.keep A13.out);have FIN:Hid (∀(g5 c5:Nat)(w5:World),Jw w5 (some ⟨g5,0,none⟩) c5 (K0.N++[y])->New (w12.alloc (.cells #[.slice y.aK y.key.length y.cK,.slice y.aV y.val.length y.cV,.int .i64 y.child,.int .i64 y.size] 51)).drew K0.aN (some ⟨g5,0,none⟩)->(w12.alloc (.cells #[.slice y.aK y.key.length y.cK,.slice y.aV y.val.length y.cV,.int .i64 y.child,.int .i64 y.size] 51)).drew.grownBy w5 (K0.aN.map Addr.block)->w5.frozen? ⟨wb,3,none⟩=false/\w5.cell? ⟨wb,3,none⟩=some (.slice K0.aN K0.N.length K0.cN)/\Apn w12 (w5.setCell ⟨wb,3,none⟩ (.slice (some ⟨g5,0,none⟩) (K0.N.length+1) c5)) wb #[.pointer (some ⟨b,0,none⟩),.pointer (some ⟨rb,0,none⟩),.slice (some ⟨g1,0,none⟩) (K0.B.length+1) c1,.slice K0.aN K0.N.length K0.cN,.slice K0.aT (K0.T.map bv).length K0.cT,.slice K0.aX (K0.X.map bv).length K0.cX] 3 K0.aN K0.N y g5 c5):=fun g5 c5 w5 hJ hN hg=>ap_set 3 BX12.out JN12.out A13.out hJ hN hg
           clear q0 q1 q2 q4 q5;go_upto_region 16 with fail
           go_cut [9] from 104 to 113 (fun p9 wx=>∃(g2 c2:Nat),p9=.pointer (some ⟨gj,0,none⟩)/\Apn w12 wx wb #[.pointer (some ⟨b,0,none⟩),.pointer (some ⟨rb,0,none⟩),.slice (some ⟨g1,0,none⟩) (K0.B.length+1) c1,.slice K0.aN K0.N.length K0.cN,.slice K0.aT (K0.T.map bv).length K0.cT,.slice K0.aX (K0.X.map bv).length K0.cX] 3 K0.aN K0.N y g2 c2)
           case first=>
            have hL2:K0.N.length+1<=2199023255489:=HL2.out
            go_region_law
             (refine step_apJ13 rfl _ _ rfl K0.aN K0.N.length K0.cN K0.N (by first|(simp[Act.eval];done)|simp[Act.eval,Act.put]) rfl J13.out ⟨w12.heap.size,0,none⟩ 1 y (by first|(simp[Act.eval];done)|simp[Act.eval,Act.put]) (item_cells13 X13.out) hL2 ?_
              intro g5 c5 w5 hJ hN hg;obtain⟨fS,cS,r6⟩:=FIN.out g5 c5 w5 hJ hN hg;have R6':=hide r6;clear hJ hN hg r6)
            all_goals
             clear fS cS FIN;go_wp2_with fail
             go_meet
             case rel=>exact⟨g5,c5,rfl,R6'.out⟩
           case rest=>
            obtain⟨g2,c2,rfl,hap⟩:=hcut;have P2:=hide hap;clear hap FIN A13 X13 J13 q3 y0 y1 y2 y3;generalize wc=w13 at *;have ST13:=hide (H11.out.grow VS3.out OL11.out NX11.out (NY11.out.mono GG.out.2.2.2.2.2) IT.out AX.out P1.out.j P1.out.n P1.out.b P2.out.j P2.out.n P2.out.b P2.out.box ⟨_,BX12.out⟩);go_wp2_with fail
            go_ret
            exact⟨rfl,S4,D2,pc4,col4,colR2,_,ST13.out,R6.out,BN4.out.le (by omega),⟨HKB.out.t,by
             show(K0.B++[x]).length<=_;rw[List.length_append];have:=HKB.out.b;show K0.B.length+1<=_;omega⟩⟩
        · have heb:(er==(0:Int))=false:=by simp[he]
          go_wp2_with fail
          go_ret;exact⟨rfl,S4,D2,pc4,col4,colR2,K0,H11.out,R6.out,BN4.out.le (by omega),HKB.out.le (by omega)⟩
end Go.Proofs.YtcpkinhneehomaaGreat
