import Derived.Test.YtbdkogimlbnlmaaGreatWtB21
set_option linter.unusedVariables false
set_option linter.unusedSimpArgs false
set_option maxHeartbeats 16000000
set_option maxRecDepth 8000
namespace Go.Proofs.YtbdkogimlbnlmaaGreat
open Go.RowKit
variable {col:Nat->Nat}{w:World}
structure Rd.Al(D' D:Rd):Prop where
 r:D'.R=D.R
 c:D'.C=D.C
 l:D'.L=D.L
 p:D'.P=D.P
 f:D'.fl=D.fl
 h:D'.hush=D.hush
def Dn(D:Rd)(H:List Sn)(r:Int)(H':List Sn):Prop:=(r=0/\∃s:Sn,s.C=D.C/\s.P=D.P/\H'=H++[s])\/(r≠0/\H'=H)
theorem Vf.cold{w':World}{col1:Nat->Nat}(hf:Vf w (c57 col) w' col1):Vf w col w' (Go.Proofs.YtbdkogimlbnlmaaGreat.cold col w col1):=⟨hf.b.mono (λk hk e=>by unfold c57 at e;split at e<;>omega),λk hk=>if_pos hk⟩
def RMa(w:World)(rb:Nat)(D:Rd)(H:List Sn)(col:Nat->Nat)(p:Pg)(e:Ending)(w':World):Prop:=∃(q:Pv)(D':Rd)(H':List Sn)(col':Nat->Nat),q.pg=p/\e=.returned (.tuple #[.int .i64 (D.makeR p).1,.int .i64 (D.makeR p).2])/\Ra w' rb D' H' col'/\Vf w col w' col'/\D'.Al (D.makeD p q)/\Dn D H (D.makeR p).2 H'
theorem Au(w:World)(rb:Nat)(D:Rd)(H:List Sn)(col:Nat->Nat)(hra:Ra w rb D H col)(hh:D.hush=false)(hH:H.length<=1000000000000)(p:Pv)(hP:Pf col w p):
 Calls Tryz.prog 92 #[.pointer (some ⟨rb,0,none⟩),p.vl] w λe w'=>RMa w rb D H col p.pg e w':=by
 have h:=hra.q;have HRA:=ig hra;have HQ:=ig h;have HP:=ig hP;have A0:=ig (al w (.cells p.cs 31));have X0:=ig (aH w (.cells p.cs 31));have PVL:Hid (p.vl=.agg #[.int .i64 p.kind,.int .i64 p.level,.slice p.aI p.items.length p.cI,.slice p.aD p.data.length p.cD,.int .i64 p.next]):=rfl;have PCS:Hid (p.cs=#[.int .i64 p.kind,.int .i64 p.level,.slice p.aI p.items.length p.cI,.slice p.aD p.data.length p.cD,.int .i64 p.next]):=rfl;have CK:=ig λ(W:World)(hb:Below w.heap.size w W)=>qz W p (hP.pi.keep hb)
 have LO:=ig λ(W:World)(hb:Below w.heap.size w W)=>pv W rb D col (h.keep hb)
 have AC:=ig λ(W:World)(hb:Below w.heap.size w W)=>tG W rb D H col (hra.keep hb) hh hH
 simp only[PVL.o] at CK ⊢;simp only[PCS.o] at A0 X0;by_cases hck:p.pg.check=0
 . rw[hck] at CK;have HCK:=ig hck;by_cases hl:iy D.pg=0
   . simp only[hl] at LO
     have MK:Hid (D.makeR p.pg=(0,12)/\∀q,D.makeD p.pg q=D):=by
      unfold Rd.makeR Rd.makeD;exact⟨by rw[if_pos hck,if_pos hl],λq=>if_neg (λhx=>hx.2 hl)⟩
     clear h hra hP hck hl;go_enter Tryz.func92,Tryz.ntmps92;go_wp2_with fail
     refine(CK.o _ A0.o).mono ?_;rintro _ w1 ⟨rfl,hb1⟩;have B1:=ig (bt A0.o hb1);clear hb1;go_wp2_with fail
     refine(LO.o _ B1.o).mono ?_;rintro _ w2 ⟨rfl,hw2⟩;rw[hw2];clear hw2;go_wp2_with fail
     go_ret2
     exact⟨p,D,H,col,rfl,by rw[MK.o.1];rfl,HRA.o.keep B1.o,Vf.keep B1.o,by rw[MK.o.2];exact⟨rfl,rfl,rfl,rfl,rfl,rfl⟩,.inr ⟨by rw[MK.o.1];exact(by decide),rfl⟩⟩
   . have MK:Hid (D.makeR p.pg=(iy D.pg,0)/\∀q,D.makeD p.pg q={D with C:=D.C.set (iy D.pg-1).toNat 1,P:=D.P.set (iy D.pg-1).toNat q}):=by
      unfold Rd.makeR Rd.makeD;exact⟨by rw[if_pos hck,if_neg hl],λq=>if_pos ⟨hck,hl⟩⟩
     obtain⟨i,hi,hlo,_⟩:=mi hl;rw[Rd.pg_len h.nL] at hi;have ei:(iy D.pg-1).toNat=i:=by rw[hlo];omega
     rw[ei,hlo] at MK;rw[hlo] at LO;obtain⟨g,eg,_⟩:=h.cAt hi;obtain⟨gP,egP⟩:∃gg,D.aP=some ⟨gg,0,none⟩:=h.pr.addr (by rw[h.nP];omega)
     have GX:Hid (w.heap.size≠g):=λe=>by
      have h1:=h.lt g (by rw[h.cc _ eg];decide)
      rw[<-e] at h1;exact absurd h1 (em _)
     have EG:=ig eg;have EGP:=ig egP;have NP:=ig h.nP;have h6:=h.n6;have hs:(i:Int)+1-1=(i:Int):=by omega
     have WKK:Hid (IntKind.i64.wrap ((i:Nat):Int)=(i:Int)):=iw (by omega) (by omega)
     have hii:(i:Int)<(D.C.length:Int):=by omega
     have n0:(((i:Int)+1)==0)=false:=by simp;omega
     have HI:=ig hi;clear h hra hP hck hl hlo ei eg egP;go_enter Tryz.func92,Tryz.ntmps92;go_wp2_with fail
     refine(CK.o _ A0.o).mono ?_;rintro _ w1 ⟨rfl,hb1⟩;have B1:=ig (bt A0.o hb1);have X1:=ig (im X0.o hb1);clear hb1 A0 X0;go_wp2_with fail
     refine(LO.o _ B1.o).mono ?_;rintro _ wq ⟨rfl,hwq⟩;rw[hwq];clear hwq;go_wp2_with fail
     refine(AC.o _ B1.o).mono ?_;rintro _ wa ⟨sn,a',c',cola,rfl,hsC,hsP,hRa,hFa⟩;have RA:=ig hRa;have FA:=ig ((Vf.keep (c:=col) B1.o).trans hFa);have SN:=ig (And.intro hsC hsP)
     have Z0:Hid (col w.heap.size=0):=by
      show _=_;cases e:col w.heap.size with
      |zero=>rfl
      |succ n=>exact absurd (HQ.o.lt _ (by rw[e];exact Nat.succ_ne_zero n)) (em _)
     have XA:=ig (hFa.box X1.o Z0.o);have ZL:Hid (∀k,cola k≠0->k<wa.heap.size):=hRa.q.lt;have XW:Hid (w.heap.size<w1.heap.size):=(af.1 X1.o).1;have ZA:Hid (cola w.heap.size=0):=(hFa.c _ XW.o).trans Z0.o;clear hsC hsP hRa hFa X1 XW;obtain⟨DA,hDA⟩:∃X,({D with aA:=a',nA:=H.length+1,cA:=c'}:Rd)=X:=⟨_,rfl⟩;have EG:Hid (DA.aC=some ⟨g,0,none⟩):=by show _=_;rw[<-hDA];exact EG.o
     have EGP:Hid (DA.aP=some ⟨gP,0,none⟩):=by show _=_;rw[<-hDA];exact EGP.o
     have NP:Hid (DA.P.length=DA.C.length):=by show _=_;rw[<-hDA];exact NP.o
     have HI:Hid (i<DA.C.length):=by show _<_;rw[<-hDA];exact HI.o
     have ED:Hid (DA.C=D.C/\DA.P=D.P/\DA.cP=D.cP):=by show _/\_;rw[<-hDA];exact⟨rfl,rfl,rfl⟩
     rw[<-ED.o.1] at hii h6;rw[hDA] at RA;have HDA:=ig hDA;clear hDA;obtain⟨cl,hcl⟩:∃c,c57 cola=c:=⟨_,rfl⟩;have HCL:=ig hcl;have R1:=ig RA.o.q.five;rw[hcl] at R1;clear hcl;obtain⟨y0,y1,y2,y3,y6⟩:=R1.o.cells;rw[EG.o] at y1;obtain⟨g',eg',cA⟩:=R1.o.cAt HI.o;obtain rfl:g'=g:=by have:=eg'.symm.trans EG.o;simpa using this
     have fA:wa.frozen? ⟨g',i,none⟩=false:=by
      have k:=R1.o.cr;rw[EG.o] at k;exact Q.Gw.free k i
     obtain⟨R2,F2⟩:Hid (Rq (wa.setCell ⟨g',i,none⟩ (.int .i64 1)) rb {DA with C:=DA.C.set i 1} cl)/\Hid (Vf wa cl (wa.setCell ⟨g',i,none⟩ (.int .i64 1)) cl):=R1.o.setC EG.o i 1;have X2:Hid ((wa.setCell ⟨g',i,none⟩ (.int .i64 1)).heap[w.heap.size]?=_):=((But.refl (λk=>k=g') wa).setCell (p:=⟨g',i,none⟩) (λ_=>rfl) (.int .i64 1)).same XA.o GX.o
     have V2:Hid (Vf wa (c57 cola) (wa.setCell ⟨g',i,none⟩ (.int .i64 1)) cl):=by show Vf _ _ _ _;rw[HCL.o];exact F2.o
     have VP:=ig (FA.o.trans V2.o.cold);have P2:=ig (HP.o.vf VP.o);have CX:Hid (DA.C.length=DA.P.length):=NP.o.symm;obtain⟨m,hm⟩:∃m,DA.C.length=m:=⟨_,rfl⟩;have NPM:Hid (DA.P.length=m):=NP.o.trans hm;rw[hm] at y1 hii h6;clear R1 eg' XA CX NP hm y0 y2 y3 y6;go_upto_region 9 with fail
     generalize wa.setCell ⟨g',i,none⟩ (.int .i64 1)=w2 at *;clear cA fA y1 F2 LO AC CK;obtain⟨y0,y1,y2,y3,y6⟩:=R2.o.cells;dsimp only at y3;rw[EGP.o,NPM.o] at y3;clear y0 y1 y2 y6;have DR:=ig (dr2 w2)
     have SS:Hid (∀W:World,Below w2.heap.size w2 W->W.cell? ⟨rb,3,none⟩=some (.slice (some ⟨gP,0,none⟩) m DA.cP)/\W.cell? ⟨w.heap.size,0,none⟩=some (.int .i64 p.kind)/\W.cell? ⟨w.heap.size,1,none⟩=some (.int .i64 p.level)/\W.cell? ⟨w.heap.size,2,none⟩=some (.slice p.aI p.items.length p.cI)/\W.cell? ⟨w.heap.size,3,none⟩=some (.slice p.aD p.data.length p.cD)/\W.cell? ⟨w.heap.size,4,none⟩=some (.int .i64 p.next)):=λW hb=>by
      have hx:=im X2.o hb;refine⟨(hb.cell (p:=⟨rb,3,none⟩) (block_lt_of_cell y3)).trans y3,?_,?_,?_,?_,?_⟩<;>(rw[au _ _ _ _ _ _ hx];rfl)
     obtain⟨sm,si⟩:=jY (p:=p) (.inl HCK.o);have CP:=ig (jZ w2.drew p (P2.o.keep DR.o) sm.1 (by omega) sm.2)
     rw[PVL.o] at CP;clear y3 sm si;refine wrd SS DR.o λhHeld=>?_
     refine tkd 0 1 2 3 ?_;refine tkb 4 5 ?_;refine tk 6 ?_;rw[WKK.o];refine tw 7 λK hK=>?_
     go_simp;refine CP.o.mono ?_;rintro _ w5 ⟨qq,rfl,hP5,hl5,hg5,hb5⟩;have N5:=ig (hP5.pre (v':=w2) (ai _));have L5:=ig hl5;have G5:=ig hg5;have B5:=ig (bt DR.o hb5);clear hP5 hl5 hg5 hb5;go_wp2_with fail
     refine hK.o _ _ (SS.o _ B5.o) (λhHeld=>?_)
     clear hK K;refine tk 8 ?_;obtain⟨R5,F5⟩:Hid (Rq w5 rb _ (ip cl w2 w5 6))/\Hid (Vf w2 cl w5 (ip cl w2 w5 6)):=R2.o.page B5.o;have CQ:Hid (qq.pg.check=0):=by show _=_;rw[G5.o];exact HCK.o
     have Z5:=ig (N5.o.pz (col:=cl) (aO (jY (p:=qq) (.inl CQ.o)).2 (by decide)))
     have TH5:Hid (w5.there gP (i*5) 5):=by
      have hr:=R5.o.pr;dsimp only at hr;rw[EGP.o] at hr;exact hr.there5 (by rw[NPM.o];omega)
     obtain⟨R6,F6⟩:Hid (Rq (w5.setCells gP (i*5) qq.cs.toList) rb _ (ip cl w2 w5 6))/\Hid (Vf w5 (ip cl w2 w5 6) (w5.setCells gP (i*5) qq.cs.toList) (ip cl w2 w5 6)):=R5.o.setP (g:=gP) EGP.o i qq Z5.o (.inl CQ.o);refine tw 9 λK hK=>?_
     rw[if_pos (by rfl)]
     refine wp_store_mid (P:=Tryz.prog) 31 _ _ rfl gP (i*5) qq.cs ?hxs ?hys TH5.o iq (by simp[Pv.cs,Value.oneCell']) ?_
     case hxs=>simp[Act.eval]
     case hys=>rfl
     have S6:Hid ((w5.setCells gP (i*5) qq.cs.toList).cell? ⟨rb,3,none⟩=some (.slice (some ⟨gP,0,none⟩) m DA.cP)/\(w5.setCells gP (i*5) qq.cs.toList).heap[w.heap.size]?=some (.cells #[.int .i64 p.kind,.int .i64 p.level,.slice p.aI p.items.length p.cI,.slice p.aD p.data.length p.cD,.int .i64 p.next] 31 (0,0))):=by
      refine⟨?_,?_⟩
      . obtain⟨z0,z1,z2,z3,z6⟩:=R6.o.cells;dsimp only at z3;rw[aS,EGP.o,NPM.o] at z3;exact z3
      . refine(i8 gP qq.cs.toList w5 (i*5)).same (im X2.o B5.o) (λe=>?_)
        have h1:=R2.o.lt gP (by rw[R2.o.cp _ EGP.o];decide)
        have h2:cl gP=4:=R2.o.cp _ EGP.o;rw[<-HCL.o,<-e,kD ZA.o (by decide)] at h2
        cases h2
     refine hK.o _ _ ⟨S6.o.1,?t0,?t1,?t2,?t3,?t4⟩ (λhHeld=>?_)
     case t0=>rw[au _ _ _ _ _ _ S6.o.2];rfl
     case t1=>rw[au _ _ _ _ _ _ S6.o.2];rfl
     case t2=>rw[au _ _ _ _ _ _ S6.o.2];rfl
     case t3=>rw[au _ _ _ _ _ _ S6.o.2];rfl
     case t4=>rw[au _ _ _ _ _ _ S6.o.2];rfl
     clear hK K S6;refine td ?_;have V6:=ig (V2.o.trans (F5.o.trans F6.o));clear hHeld SS TH5 R5 F5 F6 DR CP Z5 N5 B5 X2 P2 R2 V2;generalize w5.setCells gP (i*5) qq.cs.toList=w6 at *;generalize ip cl w2 w5 6=col6 at *;go_wp2_with fail
     go_ret2
     obtain⟨K1,K2⟩:=RA.o.step R6.o V6.o (by rw[<-HDA.o]) (by rw[<-HDA.o]) (by rw[<-HDA.o]) (by show(DA.C.set i 1).length=_;rw[aS])
     refine⟨qq,_,_,_,G5.o,by rw[MK.o.1];rfl,K1,FA.o.trans K2,?_,.inl ⟨by rw[MK.o.1],sn,SN.o.1,SN.o.2,rfl⟩⟩
     rw[MK.o.2,<-HDA.o];exact⟨rfl,rfl,rfl,rfl,rfl,rfl⟩
 . have MK:Hid (D.makeR p.pg=(0,(p.pg.check:Int))/\∀q,D.makeD p.pg q=D):=by
    unfold Rd.makeR Rd.makeD;exact⟨if_neg hck,λq=>if_neg (λhx=>hck hx.1)⟩
   obtain⟨ck0,hck0⟩:∃c,p.pg.check=c:=⟨_,rfl⟩;simp only[hck0] at CK hck MK;have NZ:Hid (((ck0:Nat):Int)≠0):=by show _≠_;omega
   have cn0:((ck0:Int) != 0)=true:=by simpa using hck
   clear h hra hP hck;go_enter Tryz.func92,Tryz.ntmps92;go_wp2_with fail
   refine(CK.o _ A0.o).mono ?_;rintro _ w1 ⟨rfl,hb1⟩;have B1:=ig (bt A0.o hb1);clear hb1 hck0;go_wp2_with fail
   go_ret2
   exact⟨p,D,H,col,rfl,by rw[MK.o.1];rfl,HRA.o.keep B1.o,Vf.keep B1.o,by rw[MK.o.2];exact⟨rfl,rfl,rfl,rfl,rfl,rfl⟩,.inr ⟨by rw[MK.o.1];exact NZ.o,rfl⟩⟩
def Rd.incs:Rd->List Int->Int×Rd
 |D,[]=>(0,D)
 |D,z::L=>if (D.inc z).1=0 then Rd.incs (D.inc z).2 L else D.inc z
theorem Rd.inc_same(D:Rd)(z:Int):(D.inc z).2.R=D.R/\(D.inc z).2.P=D.P/\(D.inc z).2.C.length=D.C.length/\(D.inc z).2.L=D.L:=by
 unfold Rd.inc Rd.put;split
 . split
   . exact⟨rfl,rfl,rfl,rfl⟩
   . exact⟨rfl,rfl,aS,rfl⟩
 . exact⟨rfl,rfl,rfl,rfl⟩
theorem Rq.new{w W:World}{rb:Nat}{D:Rd}{col:Nat->Nat}(h:Rq w rb D col)(hW:w.heap.size<=W.heap.size){a:Option Addr}(hn:New W none a){x:Addr}(hx:a=some x):col x.block=0:=by
 have h2:=iG hn hx;cases e:col x.block with
 |zero=>rfl
 |succ n=>
  have:=h.lt x.block (by omega)
  omega
theorem ya(w:World)(rb:Nat)(D:Rd)(col:Nat->Nat)(h:Rq w rb D col)(p:Pv)(hp:Pi w p)(hR:D.R<=65536)(hm:p.pg.kids.length<=17592186044416):
 Calls Tryz.prog 144 #[.pointer (some ⟨rb,0,none⟩),p.vl] w λe w'=>e=.returned (.int .i64 (D.incs p.pg.kids).1)/\Rq w' rb (D.incs p.pg.kids).2 col/\Vf w col w' col:=by
 have aB:=al w (.cells p.cs 31);have hx:=az w (.cells p.cs 31);have KD:=ig (rL _ p (hp.keep aB));have AB:=ig aB;have HV:=ig h;have HR:=ig hR;obtain⟨L,hL⟩:∃L,p.pg.kids=L:=⟨_,rfl⟩;rw[hL] at KD hm ⊢;obtain⟨n,hn⟩:∃n,L.length=n:=⟨_,rfl⟩;have HN:=ig hn;rw[hn] at KD hm;have hn64:n<=17592186044416:=hm;clear h hp hL aB hn hm hR;obtain⟨kind,level,aI,cI,items,aD,cD,data,next⟩:=p
 unfold Pv.vl at *;simp only[Pv.cs] at *;obtain⟨x0,x1,x2,x3,x4⟩:=iv hx;clear hx;go_enter Tryz.func144,Tryz.ntmps144;go_wp2_with fail
 refine KD.o.mono ?_;rintro _ w1 ⟨a,c,rfl,hO⟩;have V1:=ig (HV.o.keep (bt AB.o hO.b));have F1:=ig (Vf.keep (c:=col) (bt AB.o hO.b));have HI:=ig hO.r;have HC:=ig λ(x:Addr)(hx:a=some x)=>HV.o.new AB.o.size hO.n hx
 clear hO KD x0 x1 x2 x3 x4 HV;go_wp2_with fail
 go_loopw [6] (λi wr=>∃(k:Nat)(D':Rd),k<=n/\i=.int .i64 (k:Int)/\Rq wr rb D' col/\Vf w1 col wr col/\D'.incs (L.drop k)=D.incs L/\D'.R=D.R) (λi _=>n-(intOf i).toNat)
 case atStart=>exact⟨0,D,aF _,rfl,V1.o,Vf.refl _ _,by rw[fD],rfl⟩
 case round=>
  obtain⟨k,D',hk,rfl,hV,hF,hE,hA⟩:=hrel;have V2:=ig hV;have F2:=ig hF;have HE:=ig hE;have HA:=ig hA;have R2:=ig (HI.o.but hF.b (λx hx e=>by rw[HC.o x hx] at e;omega))
  clear hV hF hE hA;by_cases hlt:k<n
  . have hkl:k<L.length:=by rw[HN.o];exact hlt
    have hki:(k:Int)<(n:Int):=by omega
    obtain⟨g,off,rfl,cK⟩:=R2.o.ir.at hkl;have hd:=n9 L hkl;obtain⟨z,hz⟩:∃z,L.getD k 0=z:=⟨_,rfl⟩;rw[hz] at cK hd;have hE:=HE.o;rw[hd] at hE;have IN:=ig (tK wr rb D' col V2.o z (by rw[HA.o];exact HR.o))
    have SM:=ig ((D'.inc_same z).1.trans HA.o);obtain⟨e,he⟩:∃e,(D'.inc z).1=e:=⟨_,rfl⟩;obtain⟨P2,hP2⟩:∃P2,(D'.inc z).2=P2:=⟨_,rfl⟩;rw[he,hP2] at IN;rw[hP2] at SM
    have hE2:(if e=0 then P2.incs (L.drop (k+1)) else (e,P2))=D.incs L:=by
     rw[<-hE];show _=(if (D'.inc z).1=0 then (D'.inc z).2.incs (L.drop (k+1)) else D'.inc z)
     rw[he,hP2];split
     . rfl
     . rw[<-he,<-hP2]
    have HE2:=ig hE2;clear hE2 hE he hP2 hz hd HE;go_wp2_with fail
    refine IN.o.mono ?_;rintro _ w3 ⟨rfl,v3,f3⟩;have V3:=ig v3;have F3:=ig (F2.o.trans f3);clear v3 f3 IN cK;by_cases h0:e=0
    . subst h0;have hE2:=HE2.o;rw[if_pos rfl] at hE2;have X:=ig hE2;clear hE2;go_wp2;go_roundw
      case rel=>exact⟨k+1,P2,by omega,by go_num,V3.o,F3.o,X.o,SM.o⟩
      case measure=>simp[intOf];omega
    . have e0:(e==0)=false:=by simp[h0]
      have hE2:=HE2.o;rw[if_neg h0] at hE2;have X:=ig hE2;clear hE2;go_wp2;go_ret;rw[<-X.o];exact⟨rfl,V3.o,F1.o.trans F3.o⟩
  . obtain rfl:k=n:=by omega
    have hE:=HE.o;rw[dC (by rw[HN.o];exact ai _)] at hE
    have X:=ig hE;clear hE;go_wp2;go_ret;rw[<-X.o];exact⟨rfl,V2.o,F1.o.trans F2.o⟩
def Rd.leave(D:Rd)(z:Int):Int×Rd:=if D.count z-1=0 then (0,D.put z 0) else (D.put z (D.count z-1)).incs (D.on z).pg.kids
theorem qQ(w:World)(rb:Nat)(D:Rd)(col:Nat->Nat)(h:Rq w rb D col)(z:Int)(hz:0<D.count z)(hc:D.count z<=65536)(hR:D.R<=65536):
 Calls Tryz.prog 103 #[.pointer (some ⟨rb,0,none⟩),.int .i64 z] w λe w'=>e=.returned (.int .i64 (D.leave z).1)/\Rq w' rb (D.leave z).2 col/\Vf w col w' col:=by
 have hh:D.has z=true:=by
  cases e:D.has z with
  |true=>rfl
  |false=>unfold Rd.count at hz;rw[e] at hz;exact absurd hz (by simp)
 obtain⟨h1,h2⟩:=Rd.has_iff.1 hh;obtain⟨i,hi⟩:∃i:Nat,z=(i:Int)+1:=⟨(z-1).toNat,by omega⟩
 subst hi;have hiC:i<D.C.length:=by omega
 have ei:((i:Int)+1-1).toNat=i:=by omega
 have HC:Hid (D.count ((i:Int)+1)=D.C.getD i 0):=by show _=_;unfold Rd.count;rw[if_pos hh,ei]
 have HO:Hid (D.on ((i:Int)+1)=D.P.getD i Pv.zero):=by show _=_;unfold Rd.on;rw[ei]
 have HPT:Hid (∀c,D.put ((i:Int)+1) c={D with C:=D.C.set i c}):=λc=>by unfold Rd.put;rw[ei]
 have HM:=ig (Rd.on_mem h hh);rw[HO.o] at HM;rw[HC.o] at hz hc
 have LV:Hid (D.leave ((i:Int)+1)=if D.C.getD i 0-1=0 then (0,{D with C:=D.C.set i 0}) else ({D with C:=D.C.set i (D.C.getD i 0-1)}:Rd).incs (D.P.getD i Pv.zero).pg.kids):=by
  show _=_;unfold Rd.leave;rw[HC.o,HO.o,HPT.o,HPT.o]
 rw[LV.o];obtain⟨g,eg,cA⟩:=h.cAt hiC;have c1:=h.cells.2.1;rw[eg] at c1;obtain⟨v,hv⟩:∃v,D.C.getD i 0=v:=⟨_,rfl⟩;rw[hv] at cA hz hc ⊢;have hs:(i:Int)+1-1=(i:Int):=by omega
 have h6:=h.n6;have hii:(i:Int)<(D.C.length:Int):=by omega
 have WK:Hid (IntKind.i64.wrap ((i:Nat):Int)=(i:Int)):=iw (by omega) (by omega)
 have WV:Hid (IntKind.i64.wrap (v-1)=v-1):=iw (by omega) (by omega)
 have fA:w.frozen? ⟨g,i,none⟩=false:=by
  have k:=h.cr;rw[eg] at k;exact Q.Gw.free k i
 obtain⟨R2,F2⟩:Hid (Rq (w.setCell ⟨g,i,none⟩ (.int .i64 (v-1))) rb {D with C:=D.C.set i (v-1)} col)/\Hid (Vf w col (w.setCell ⟨g,i,none⟩ (.int .i64 (v-1))) col):=h.setC eg i (v-1);have HII:=ig hiC;obtain⟨m,hm⟩:∃m,D.C.length=m:=⟨_,rfl⟩;have HNP:Hid (D.P.length=m):=h.nP.trans hm;have HMM:=ig hm;rw[hm] at c1 hii h6;have GX:=ig eg;clear h hh h1 h2 hv eg LV HPT HC HO hm ei;by_cases h0:v-1=0
 . simp only[if_pos h0];have H0:=ig h0;clear h0;go_enter Tryz.func103,Tryz.ntmps103;go_upto_region 2 with fail
   generalize w.setCell ⟨g,i,none⟩ (.int .i64 (v-1))=w2 at *;clear cA fA c1;have y1:=R2.o.cells.2.1;dsimp only at y1;rw[aS,GX.o,HMM.o] at y1;obtain⟨g',eg',cB⟩:=R2.o.cAt (i:=i) (by show i<(D.C.set i (v-1)).length;rw[aS];exact HII.o)
   obtain rfl:g'=g:=by have:=eg'.symm.trans GX.o;simpa using this
   have e2:(D.C.set i (v-1)).getD i 0=v-1:=by
    have:=HII.o;simp[this]
   simp only[e2] at cB;clear eg' e2;rw[H0.o] at cB R2;clear H0;go_wp2_with fail
   go_ret;exact⟨rfl,R2.o,F2.o⟩
 . simp only[if_neg h0];have e0:(v-1==0)=false:=by simp[h0]
   obtain⟨pp,hpp⟩:∃pp,D.P.getD i Pv.zero=pp:=⟨_,rfl⟩;have HPP:=ig hpp;rw[hpp] at HM ⊢;clear hpp h0;go_enter Tryz.func103,Tryz.ntmps103;go_upto_region 2 with fail
   generalize w.setCell ⟨g,i,none⟩ (.int .i64 (v-1))=w2 at *;clear cA fA c1;have y1:=R2.o.cells.2.1;dsimp only at y1;rw[aS,GX.o,HMM.o] at y1;obtain⟨g',eg',cB⟩:=R2.o.cAt (i:=i) (by show i<(D.C.set i (v-1)).length;rw[aS];exact HII.o)
   obtain rfl:g'=g:=by have:=eg'.symm.trans GX.o;simpa using this
   have e2:(D.C.set i (v-1)).getD i 0=v-1:=by
    have:=HII.o;simp[this]
   simp only[e2] at cB;clear eg' e2;obtain⟨gP,egP,cP⟩:=R2.o.pAt (i:=i) (by show i<(D.C.set i (v-1)).length;rw[aS];exact HII.o)
   dsimp only at egP cP;have y3:=R2.o.cells.2.2.2.1;dsimp only at y3;rw[egP,HNP.o] at y3;rw[HPP.o] at cP;have MR:=ig λ(W:World)(hW:W=w2)=>ya W rb {D with C:=D.C.set i (v-1)} col (by rw[hW];exact R2.o) pp (by rw[hW];exact(R2.o.pz pp HM.o).pi) hR (aO (ru (R2.o.ps pp HM.o)) (by decide))
   have z0:=cP 0 _ (by decide) rfl
   have z1:=cP 1 _ (by decide) rfl
   have z2:=cP 2 _ (by decide) rfl
   have z3:=cP 3 _ (by decide) rfl
   have z4:=cP 4 _ (by decide) rfl
   rw[cE] at z0;unfold Pv.vl at MR;simp only[Pv.cs] at MR;clear cP egP HPP;go_wp2_with fail
   refine(MR.o _ rfl).mono ?_;rintro _ w3 ⟨rfl,hR3,hF3⟩;have R3:=ig hR3;have F3:=ig (F2.o.trans hF3);clear hR3 hF3;go_wp2_with fail
   go_ret;exact⟨rfl,R3.o,F3.o⟩
def RDn(w:World)(rb:Nat)(D:Rd)(H:List Sn)(col:Nat->Nat)(r:Int)(D2:Rd)(e:Ending)(w':World):Prop:=∃(D':Rd)(H':List Sn)(col':Nat->Nat),e=.returned (.int .i64 r)/\Ra w' rb D' H' col'/\Vf w col w' col'/\D'.Al D2/\Dn D H r H'
theorem Rd.inc_mem(D:Rd)(z:Int):(D.inc z).2.aA=D.aA/\(D.inc z).2.nA=D.nA/\(D.inc z).2.cA=D.cA/\(D.inc z).2.fl=D.fl/\(D.inc z).2.hush=D.hush:=by
 unfold Rd.inc Rd.put;split
 . split<;>exact⟨rfl,rfl,rfl,rfl,rfl⟩
 . exact⟨rfl,rfl,rfl,rfl,rfl⟩
theorem BH(w:World)(rb:Nat)(D:Rd)(H:List Sn)(col:Nat->Nat)(h:Ra w rb D H col)(hh:D.hush=false)(hH:H.length<=1000000000000)(z:Int)(hR:D.R<=65536):
 Calls Tryz.prog 41 #[.pointer (some ⟨rb,0,none⟩),.int .i64 z] w λe w'=>RDn w rb D H col (D.inc z).1 (D.inc z).2 e w':=by
 have CI:=ig λ(W:World)(hb:Below w.heap.size w W)=>Q.jC W D.aC D.C.length D.cC D.C (h.keep hb).q.cr.ir rfl h.q.n6
 have CP:=ig λ(W:World)(hb:Below w.heap.size w W)=>jr W D.aP D.P.length D.cP D.P (h.keep hb).q.pgs rfl (by rw[h.q.nP];exact h.q.n6)
 have SS:Hid (∀W:World,Below w.heap.size w W->W.cell? ⟨rb,1,none⟩=some (.slice D.aC D.C.length D.cC)/\W.cell? ⟨rb,3,none⟩=some (.slice D.aP D.P.length D.cP)):=λW hb=>⟨(h.keep hb).q.cells.2.1,(h.keep hb).q.cells.2.2.2.1⟩
 have DR:=ig (dr2 w);have IN:=ig λ(W:World)(c:Nat->Nat)(hq:Rq W rb D c)=>tK W rb D c hq z hR
 have SM:=ig (D.inc_same z);have MM:=ig (D.inc_mem z);have HH:Hid ((D.inc z).2.hush=false):=(D.inc_mem z).2.2.2.2.trans hh;have HR:=ig h;have HL:=ig hH;have FIN:Hid (∀(W:World)(c:Nat->Nat)(D2:Rd)(s:Sn),D2.hush=false->Ra W rb D2 H c->Sv W c D2.C.length s->Calls Tryz.prog 105 #[.pointer (some ⟨rb,0,none⟩),.slice s.aC s.C.length s.cC,.slice s.aP s.P.length s.cP] W λe w'=>∃a' c' col',e=.returned (.tuple #[])/\Ra w' rb {D2 with aA:=a',nA:=H.length+1,cA:=c'} (H++[s]) col'/\Vf W c w' col'):=λW c D2 s e2 h2 hs=>m6 W rb D2 H c h2 e2 s hs hH
 clear h hh hR hH;generalize D.inc z=r at *;obtain⟨er,D2⟩:=r;dsimp only at IN HH SM MM ⊢;go_enter Tryz.func41,Tryz.ntmps41;go_upto_region 1 with fail
 refine wrd SS DR.o λhHeld=>?_
 refine tkd 0 1 2 3 ?_;refine tkd 5 6 7 8 ?_;refine tw 4 λK hK=>?_
 go_simp;refine(CI.o _ DR.o).mono ?_;rintro _ w1 ⟨a1,k1,rfl,hO1⟩;have B1:=ig (bt DR.o hO1.b);have IC:=ig hO1.r;have NC:=ig (hO1.n.mono (DR.o).size);clear hO1;go_wp2_with fail
 refine hK.o _ _ (SS.o _ B1.o) (λhHeld=>?_)
 clear hK K;refine tw 9 λK hK=>?_
 go_simp;refine(CP.o _ B1.o).mono ?_;rintro _ w2 ⟨a2,k2,rfl,hG,hN,hb2⟩;have B2:=ig (bt B1.o hb2);obtain⟨RS,FSx,SV⟩:Hid (Ra w2 rb D H (ip col w w2 7))/\Hid (Vf w col w2 (ip col w w2 7))/\Hid (Sv w2 (ip col w w2 7) D.C.length ⟨a1,k1,D.C,a2,k2,D.P⟩):=HR.o.snap B2.o (IC.o.keep hb2) hG NC.o (hN.mono (B1.o).size);clear hb2 hG hN IC NC;go_wp2_with fail
 refine hK.o _ _ (SS.o _ B2.o) (λhHeld=>?_)
 clear hK K;refine tkb 10 11 ?_;refine td ?_;clear hHeld SS CI CP B1 DR;generalize ip col w w2 7=cq at *;go_wp2_with fail
 refine(IN.o _ _ RS.o.q.five).mono ?_;rintro _ w3 ⟨rfl,hR3,hF3⟩;obtain⟨R3,F3⟩:Hid (Ra w3 rb D2 H (cold cq w2 (c57 cq)))/\Hid (Vf w2 cq w3 (cold cq w2 (c57 cq))):=RS.o.step hR3 hF3 MM.o.1 MM.o.2.1 MM.o.2.2.1 SM.o.2.2.1
 have SV3:Hid (Sv w3 (cold cq w2 (c57 cq)) D2.C.length ⟨a1,k1,D.C,a2,k2,D.P⟩):=by
  show Sv _ _ _ _;rw[SM.o.2.2.1];exact SV.o.vf F3.o
 have F4:=ig (FSx.o.trans F3.o);clear hR3 hF3 IN RS FSx SV F3 B2;generalize cold cq w2 (c57 cq)=c3 at *;by_cases he:er=0
 . subst he;have DD:=ig (FIN.o w3 c3 D2 ⟨a1,k1,D.C,a2,k2,D.P⟩ HH.o R3.o SV3.o);dsimp only at DD;clear FIN;go_wp2_with fail
   refine DD.o.mono ?_;rintro _ w4 ⟨a',c',col4,rfl,hR4,hF4⟩;have R4:=ig hR4;have F5:=ig (F4.o.trans hF4);clear hR4 hF4;go_wp2_with fail
   go_ret;exact⟨_,_,_,rfl,R4.o,F5.o,⟨rfl,rfl,rfl,rfl,rfl,rfl⟩,.inl ⟨rfl,_,rfl,rfl,rfl⟩⟩
 . have e1:(er==0)=false:=by simp[he]
   have HE:=ig he;clear he;go_wp2_with fail
   go_ret;exact⟨_,_,_,rfl,R3.o,F4.o,⟨rfl,rfl,rfl,rfl,rfl,rfl⟩,.inr ⟨HE.o,rfl⟩⟩
def jx(col:Nat->Nat)(s:Sn)(k:Nat):Nat:=if jz s.aC k=true then 2 else if jz s.aP k=true then 4 else col k
def Rd.back(D:Rd)(s:Sn):Rd:={D with aC:=s.aC,cC:=s.cC,C:=s.C,aP:=s.aP,cP:=s.cP,P:=s.P}
theorem Ra.undone{w0:World}{rb:Nat}{D0 D:Rd}{H:List Sn}{col0:Nat->Nat}(h0:Ra w0 rb D0 H col0)(h:Ra w rb D H col)(f:Vf w0 col0 w col)(s:Sn)(hs:Sv w col D.C.length s)(nC:New w0 none s.aC)(nP:New w0 none s.aP):
 Ra ((w.setCell ⟨rb,1,none⟩ (.slice s.aC s.C.length s.cC)).setCell ⟨rb,3,none⟩ (.slice s.aP s.P.length s.cP)) rb (D.back s) H (jx col s)/\Vf w0 col0 ((w.setCell ⟨rb,1,none⟩ (.slice s.aC s.C.length s.cC)).setCell ⟨rb,3,none⟩ (.slice s.aP s.P.length s.cP)) (jx col s):=by
 have q:=h.q;have bs:But (λk=>k=rb) w ((w.setCell ⟨rb,1,none⟩ (.slice s.aC s.C.length s.cC)).setCell ⟨rb,3,none⟩ (.slice s.aP s.P.length s.cP)):=((But.refl (λk=>k=rb) w).setCell (p:=⟨rb,1,none⟩) (λ_=>rfl) _).setCell (p:=⟨rb,3,none⟩) (λ_=>rfl) _
 have ne:∀{k c:Nat},col k=c->c≠1->¬k=rb:=λe hc e2=>hc (by rw[<-e,e2];exact q.cb)
 have n7:∀{k:Nat},col k≠7->jx col s k=col k:=λ{k} hk=>by
  unfold jx;rw[if_neg (λe=>by obtain⟨x,hx,e⟩:=iC.1 e;exact hk (by rw[<-e];exact hs.cc x hx)),if_neg (λe=>by obtain⟨x,hx,e⟩:=iC.1 e;exact hk (by rw[<-e];exact hs.cp x hx))]
 have od:∀{k:Nat},k<w0.heap.size->jx col s k=col k:=λ{k} hk=>by
  unfold jx;rw[if_neg (λe=>by obtain⟨x,hx,e⟩:=iC.1 e;have:=iG nC hx;omega),if_neg (λe=>by obtain⟨x,hx,e⟩:=iC.1 e;have:=iG nP hx;omega)]
 have at7:∀{k c:Nat},col k=c->c≠7->jx col s k=c:=λe hc=>(n7 (by rw[e];exact hc)).trans e
 have b0:=q.box;refine⟨⟨⟨?_,hs.cr.but bs (λx hx=>ne (hs.cc x hx) (by decide)),q.lr.but bs (λx hx=>ne (q.cl x hx) (by decide)),hs.pr.but bs (λx hx=>ne (hs.cp x hx) (by decide)),λp hp=>((hs.pz p hp).but bs (λk _ e=>ne e (by decide))).mono (λk _ e=>at7 e (by decide)),hs.ps,at7 q.cb (by decide),λx hx=>?_,λx hx=>at7 (q.cl x hx) (by decide),λx hx=>?_,λk hk=>?_,?_,?_,?_⟩,⟨h.a.ar.but bs (λx hx=>ne (h.a.ca x hx) (by decide)),h.a.na,λx hx=>at7 (h.a.ca x hx) (by decide),λt ht=>?_⟩⟩,⟨?_,λk hk=>(od hk).trans (f.c k hk)⟩⟩
 . rw[aM _ _ _ _ _ _ (aM _ _ _ _ _ _ b0)];rfl
 . exact if_pos (iC.2 ⟨x,hx,rfl⟩)
 . have h1:¬jz s.aC x.block=true:=λe=>by
    obtain⟨y,hy,e⟩:=iC.1 e;obtain⟨c1,k1⟩:=Q.Gw.blk hs.cr hy;obtain⟨c2,k2⟩:=hs.pr.blk hx;exact je k1 k2 (by decide) e
   show jx col s x.block=4;unfold jx;rw[if_neg h1];exact if_pos (iC.2 ⟨x,hx,rfl⟩)
 . by_cases h7:col k=7
   . exact aZ (q.lt k (by omega)) bs.size
   . rw[n7 h7] at hk;exact aZ (q.lt k hk) bs.size
 . show D.L.length=s.C.length;rw[q.nL,hs.nC]
 . show s.P.length=s.C.length;rw[hs.nP,hs.nC]
 . show s.C.length<=_;rw[hs.nC];exact q.n6
 . have t0:=h0.a.sv t ht;have t1:=(h.a.sv t ht).but bs (λk _ e e2=>by rw[e2,q.cb] at e;omega)
   exact⟨t1.cr,t1.pr,λp hp=>(t1.pz p hp).mono (λk _ e=>at7 e (by decide)),t1.ps,t1.nC.trans hs.nC.symm,t1.nP.trans hs.nC.symm,λx hx=>(od (t0.cr.lt hx)).trans (t1.cc x hx),λx hx=>(od (t0.pr.lt hx)).trans (t1.cp x hx)⟩
 . refine f.b.trans (bs.mono (T:=λk=>1<=col k/\col k<=5) (λk _ e=>by rw[e,q.cb];decide)) (λk hk e=>by rw[f.c k hk] at e;exact e)
structure Rd.Sm(D' D:Rd):Prop where
 r:D'.R=D.R
 l:D'.L=D.L
 n:D'.C.length=D.C.length
 a:D'.aA=D.aA
 m:D'.nA=D.nA
 c:D'.cA=D.cA
 f:D'.fl=D.fl
 h:D'.hush=D.hush
 p:D'.P=D.P
 u:D'.aP=D.aP
 v:D'.cP=D.cP
theorem Rd.Sm.trans{A B C:Rd}(h:A.Sm B)(k:B.Sm C):A.Sm C:=⟨h.r.trans k.r,h.l.trans k.l,h.n.trans k.n,h.a.trans k.a,h.m.trans k.m,h.c.trans k.c,h.f.trans k.f,h.h.trans k.h,h.p.trans k.p,h.u.trans k.u,h.v.trans k.v⟩
theorem Rd.inc_sm(D:Rd)(z:Int):(D.inc z).2.Sm D:=by
 unfold Rd.inc Rd.put;split
 . split
   . exact⟨rfl,rfl,rfl,rfl,rfl,rfl,rfl,rfl,rfl,rfl,rfl⟩
   . exact⟨rfl,rfl,aS,rfl,rfl,rfl,rfl,rfl,rfl,rfl,rfl⟩
 . exact⟨rfl,rfl,rfl,rfl,rfl,rfl,rfl,rfl,rfl,rfl,rfl⟩
theorem Rd.incs_sm:∀(L:List Int)(D:Rd),(D.incs L).2.Sm D
 | [],D=>⟨rfl,rfl,rfl,rfl,rfl,rfl,rfl,rfl,rfl,rfl,rfl⟩
 |z::L,D=>by
  unfold Rd.incs;split
  . exact(Rd.incs_sm L _).trans (D.inc_sm z)
  . exact D.inc_sm z
theorem Rd.put_sm(D:Rd)(z c:Int):(D.put z c).Sm D:=⟨rfl,rfl,aS,rfl,rfl,rfl,rfl,rfl,rfl,rfl,rfl⟩
theorem Rd.leave_sm(D:Rd)(z:Int):(D.leave z).2.Sm D:=by
 unfold Rd.leave;split
 . exact D.put_sm z 0
 . exact(Rd.incs_sm _ _).trans (D.put_sm z _)
def Rd.own(D:Rd)(z:Int):Bool:=decide (D.state z=3)&&decide (D.count z=1)
theorem Rd.state_has{D:Rd}{z:Int}(h:D.state z≠0):D.has z=true:=by
 cases e:D.has z with
 |true=>rfl
 |false=>unfold Rd.state at h;rw[e] at h;exact absurd rfl h
theorem uK(w:World)(rb:Nat)(D:Rd)(col:Nat->Nat)(h:Rq w rb D col)(z:Int):Calls Tryz.prog 100 #[.pointer (some ⟨rb,0,none⟩),.int .i64 z] w λe w'=>e=.returned (.bool (D.own z))/\w'=w:=by
 have ST:=ig (kC w rb D col h z);obtain⟨c0,c1,c2,c3,c6⟩:=h.cells;by_cases hs:D.state z=3
 . have hh:=Rd.state_has (D:=D) (z:=z) (by rw[hs];decide)
   obtain⟨h1,h2⟩:=Rd.has_iff.1 hh;obtain⟨i,hi⟩:∃i:Nat,z=(i:Int)+1:=⟨(z-1).toNat,by omega⟩
   subst hi;have hiC:i<D.C.length:=by omega
   have ei:((i:Int)+1-1).toNat=i:=by omega
   have HC:D.count ((i:Int)+1)=D.C.getD i 0:=by unfold Rd.count;rw[if_pos hh,ei]
   obtain⟨g,eg,cA⟩:=h.cAt hiC;rw[eg] at c1;have h6:=h.n6;have hii:(i:Int)<(D.C.length:Int):=by omega
   have hs1:(i:Int)+1-1=(i:Int):=by omega
   have WK:Hid (IntKind.i64.wrap ((i:Nat):Int)=(i:Int)):=iw (by omega) (by omega)
   unfold Rd.own;rw[HC,ay hs,fI];rw[hs] at ST;clear h hh h1 h2 HC eg ei hs c0 c2 c3 c6;generalize D.C.getD i 0=v at *;generalize D.C.length=m at *;by_cases hv:v=1
   . subst hv;go_enter Tryz.func100,Tryz.ntmps100;go_wp2_with fail
     refine ST.o.mono ?_;rintro _ wq ⟨rfl,hwq⟩;rw[hwq];clear hwq;go_wp2_with fail
     go_ret;exact⟨rfl,rfl⟩
   . have e1:(v==1)=false:=by simp[hv]
     rw[ax hv];clear hv;go_enter Tryz.func100,Tryz.ntmps100;go_wp2_with fail
     refine ST.o.mono ?_;rintro _ wq ⟨rfl,hwq⟩;rw[hwq];clear hwq;go_wp2_with fail
     go_ret;exact⟨rfl,rfl⟩
 . unfold Rd.own;rw[ax hs,ew];obtain⟨s,hs2⟩:∃s,D.state z=s:=⟨_,rfl⟩;rw[hs2] at ST hs;have e3:(((s:Nat):Int)==3)=false:=by simp;omega
   clear hs hs2 h c0 c1 c2 c3 c6;go_enter Tryz.func100,Tryz.ntmps100;go_wp2_with fail
   refine ST.o.mono ?_;rintro _ wq ⟨rfl,hwq⟩;rw[hwq];clear hwq;go_wp2_with fail
   go_ret;exact⟨rfl,rfl⟩
end Go.Proofs.YtbdkogimlbnlmaaGreat
