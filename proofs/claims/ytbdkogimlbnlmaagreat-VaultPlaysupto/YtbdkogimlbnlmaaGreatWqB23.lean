import Derived.Test.YtbdkogimlbnlmaaGreatWqB22
set_option linter.unusedVariables false
set_option linter.unusedSimpArgs false
set_option maxHeartbeats 16000000
set_option maxRecDepth 8000
namespace Go.Proofs.YtbdkogimlbnlmaaGreat
open Go.RowKit
variable {z:Int}{b:Nat}{col pc:Nat->Nat}{D:Rd}{X:Vm}{S:Vs}{w:World}
def Rd.shadow1(D:Rd)(z:Int):Rd:={D with C:=D.C.set (ip D.pg-1).toNat 1,P:=D.P.set (ip D.pg-1).toNat (D.on z)}
def Rd.shadowR(D:Rd)(z:Int):(Int×Int)×Rd:=
 if 0<D.count z then
  (if D.own z=true then ((z,0),D)
   else if ip D.pg=0 then ((0,12),D)
   else if ((D.shadow1 z).leave z).1=0 then ((ip D.pg,0),((D.shadow1 z).leave z).2) else ((0,((D.shadow1 z).leave z).1),D))
 else ((0,15),D)
def Da(D:Rd)(H:List Sn)(b:Prop)(H':List Sn):Prop:=(b/\∃s:Sn,s.C=D.C/\s.P=D.P/\H'=H++[s])\/(¬b/\H'=H)
def RSh(w:World)(rb:Nat)(D:Rd)(H:List Sn)(col:Nat->Nat)(z:Int)(e:Ending)(w':World):Prop:=∃(D':Rd)(H':List Sn)(col':Nat->Nat),e=.returned (.tuple #[.int .i64 (D.shadowR z).1.1,.int .i64 (D.shadowR z).1.2])/\Ra w' rb D' H' col'/\Vf w col w' col'/\D'.Al (D.shadowR z).2/\Da D H ((D.shadowR z).1.2=0/\D.own z=false) H'
theorem Rd.pg_at(h:D.L.length=D.C.length){j:Nat}(hj:j<D.C.length):D.pg.getD j Q.Pg.zero=(D.C.getD j 0,D.L.getD j false):=by
 have hl:j<D.L.length:=by omega
 have hz:j<(D.C.zip D.L).length:=by rw[gS];omega
 unfold Rd.pg;rw[aq,aS hz,List.getElem_zip];simp[hj,hl]
theorem Rd.Al.refl(D:Rd):D.Al D:=⟨rfl,rfl,rfl,rfl,rfl,rfl⟩
theorem wO(w:World)(rb:Nat)(D:Rd)(H:List Sn)(col:Nat->Nat)(h:Ra w rb D H col)(hh:D.hush=false)(hH:H.length<=1000000000000)(z:Int)(hR:D.R<=65536)(hcs:D.count z<=65536):
 Calls Tryz.prog 36 #[.pointer (some ⟨rb,0,none⟩),.int .i64 z] w λe w'=>RSh w rb D H col z e w':=by
 have TH:=gZ (jL w rb D col h.q z);have OW:=gZ (sZ w rb D col h.q z);have LO:=gZ (oS w rb D col h.q);have HR:=gZ h;by_cases h1:0<D.count z
 . rw[ay h1] at TH;cases ho:D.own z with
   |true=>
    rw[ho] at OW;have SR:Hid (D.shadowR z=((z,0),D)):=by show _=_;unfold Rd.shadowR;rw[if_pos h1,if_pos ho]
    have HO:=gZ ho;clear h ho h1 hcs;go_enter Tryz.func36,Tryz.ntmps36;go_wp2_with fail
    refine TH.o.mono ?_;rintro _ wq ⟨rfl,hwq⟩;rw[hwq];clear hwq;go_wp2_with fail
    refine OW.o.mono ?_;rintro _ wq ⟨rfl,hwq⟩;rw[hwq];clear hwq;go_wp2_with fail
    go_ret2
    exact⟨D,H,col,by rw[SR.o];rfl,HR.o,Vf.refl _ _,by rw[SR.o];exact Rd.Al.refl D,.inr ⟨λe=>(by have:=e.2;rw[HO.o] at this;cases this),rfl⟩⟩
   |false=>
    rw[ho] at OW;have HO:=gZ ho;by_cases hl:ip D.pg=0
    . have SR:Hid (D.shadowR z=((0,12),D)):=by show _=_;unfold Rd.shadowR;rw[if_pos h1,if_neg (by rw[ho];decide),if_pos hl]
      rw[hl] at LO;clear h ho h1 hcs hl;go_enter Tryz.func36,Tryz.ntmps36;go_wp2_with fail
      refine TH.o.mono ?_;rintro _ wq ⟨rfl,hwq⟩;rw[hwq];clear hwq;go_wp2_with fail
      refine OW.o.mono ?_;rintro _ wq ⟨rfl,hwq⟩;rw[hwq];clear hwq;go_wp2_with fail
      refine LO.o.mono ?_;rintro _ wq ⟨rfl,hwq⟩;rw[hwq];clear hwq;go_wp2_with fail
      go_ret2
      exact⟨D,H,col,by rw[SR.o];rfl,HR.o,Vf.refl _ _,by rw[SR.o];exact Rd.Al.refl D,.inr ⟨λe=>by have:=e.1;rw[SR.o] at this;simp at this,rfl⟩⟩
    . have SR:Hid (D.shadowR z=if ((D.shadow1 z).leave z).1=0 then ((ip D.pg,0),((D.shadow1 z).leave z).2) else ((0,((D.shadow1 z).leave z).1),D)):=by show _=_;unfold Rd.shadowR;rw[if_pos h1,if_neg (by rw[ho];decide),if_neg hl]
      have CI:=gZ λ(W:World)(hb:Below w.heap.size w W)=>Q.jx W D.aC D.C.length D.cC D.C (h.keep hb).q.cr.ir rfl h.q.n6
      have CP:=gZ λ(W:World)(hb:Below w.heap.size w W)=>jj W D.aP D.P.length D.cP D.P (h.keep hb).q.pgs rfl (by rw[h.q.nP];exact h.q.n6)
      have SS:Hid (∀W:World,Below w.heap.size w W->W.cell? ⟨rb,1,none⟩=some (.slice D.aC D.C.length D.cC)/\W.cell? ⟨rb,3,none⟩=some (.slice D.aP D.P.length D.cP)):=λW hb=>⟨(h.keep hb).q.cells.2.1,(h.keep hb).q.cells.2.2.2.1⟩
      have DR:=gZ (dr2 w);obtain⟨j,hj,hlo,hst⟩:=mt hl;rw[Rd.pg_len h.q.nL] at hj
      have hhz:D.has z=true:=by
       cases e:D.has z with
       |true=>rfl
       |false=>unfold Rd.count at h1;rw[e] at h1;exact absurd h1 (by simp)
      obtain⟨z1,z2⟩:=Rd.has_iff.1 hhz;obtain⟨i,hi⟩:∃i:Nat,z=(i:Int)+1:=⟨(z-1).toNat,by omega⟩
      subst hi;have hiC:i<D.C.length:=by omega
      have ei:((i:Int)+1-1).toNat=i:=by omega
      have ej:(ip D.pg-1).toNat=j:=by rw[hlo];omega
      have HC:Hid (D.count ((i:Int)+1)=D.C.getD i 0):=by show _=_;unfold Rd.count;rw[if_pos hhz,ei]
      have CJ:Hid (D.C.getD j 0=0):=by
       show _=_;have e1:D.pg.getD j Q.Pg.zero=(D.C.getD j 0,D.L.getD j false):=Rd.pg_at h.q.nL hj;rw[e1] at hst;generalize D.C.getD j 0=c at hst;generalize D.L.getD j false=l at hst;unfold Q.stt at hst;by_cases e2:c=0
       . exact e2
       . exfalso;cases l<;>simp[e2] at hst
      have NE:Hid (i≠j):=λe=>by
       rw[HC.o,e,CJ.o] at h1;exact absurd h1 (by decide)
      have LV:Hid (D.shadow1 ((i:Int)+1)={D with C:=D.C.set j 1,P:=D.P.set j (D.P.getD i Pv.zero)}):=by
       show _=_;unfold Rd.shadow1 Rd.on;rw[ej,ei]
      rw[LV.o,hlo] at SR;rw[hlo] at LO;obtain⟨gC,egC,_⟩:=h.q.cAt hj;obtain⟨gP,egP⟩:∃gg,D.aP=some ⟨gg,0,none⟩:=h.q.pr.addr (by rw[h.q.nP];omega)
      have EC:=gZ egC;have EP:=gZ egP;have NP:=gZ h.q.nP
      have HM:Hid (D.P.getD i Pv.zero∈D.P):=by
       show _∈_;have:i<D.P.length:=by rw[h.q.nP];exact hiC
       simp[this]
      have HH:=gZ hh;have HL:=gZ hH;have HRR:=gZ hR;have CNT:Hid (0<D.C.getD i 0/\D.C.getD i 0<=65536):=⟨by rw[<-HC.o];exact h1,by rw[<-HC.o];exact hcs⟩
      have HI:=gZ hiC;have HJ:=gZ hj;have h6:=h.q.n6;have n0:(((j:Int)+1)==0)=false:=by simp;omega
      have sj:(j:Int)+1-1=(j:Int):=by omega
      have si:(i:Int)+1-1=(i:Int):=by omega
      have WJ:Hid (IntKind.i64.wrap ((j:Nat):Int)=(j:Int)):=im (by omega) (by omega)
      have WI:Hid (IntKind.i64.wrap ((i:Nat):Int)=(i:Int)):=im (by omega) (by omega)
      clear h hh hH hR hcs ho h1 hl hlo hst hhz z1 z2 ei ej egC egP LV HC;go_enter Tryz.func36,Tryz.ntmps36;go_wp2_with fail
      refine TH.o.mono ?_;rintro _ wq ⟨rfl,hwq⟩;rw[hwq];clear hwq;go_wp2_with fail
      refine OW.o.mono ?_;rintro _ wq ⟨rfl,hwq⟩;rw[hwq];clear hwq;go_wp2_with fail
      refine LO.o.mono ?_;rintro _ wq ⟨rfl,hwq⟩;rw[hwq];clear hwq TH OW LO;go_upto_region 8 with fail
      refine wrd SS DR.o λhHeld=>?_
      refine tkd 0 1 2 3 ?_;refine tkd 5 6 7 8 ?_;refine tw 4 λK hK=>?_
      go_simp;refine(CI.o _ DR.o).mono ?_;rintro _ w1 ⟨a1,k1,rfl,hO1⟩;have B1:=gZ (bt DR.o hO1.b);have IC:=gZ hO1.r;have NC:=gZ (hO1.n.mono (DR.o).size);clear hO1;go_wp2_with fail
      refine hK.o _ _ (SS.o _ B1.o) (λhHeld=>?_)
      clear hK K;refine tw 9 λK hK=>?_
      go_simp;refine(CP.o _ B1.o).mono ?_;rintro _ w2 ⟨a2,k2,rfl,hG,hN,hb2⟩;have B2:=gZ (bt B1.o hb2);have NPW:=gZ (hN.mono (B1.o).size);obtain⟨RS,FSx,SV⟩:Hid (Ra w2 rb D H (ia col w w2 7))/\Hid (Vf w col w2 (ia col w w2 7))/\Hid (Sv w2 (ia col w w2 7) D.C.length ⟨a1,k1,D.C,a2,k2,D.P⟩):=HR.o.snap B2.o (IC.o.keep hb2) hG NC.o NPW.o;clear hb2 hG hN IC;go_wp2_with fail
      refine hK.o _ _ (SS.o _ B2.o) (λhHeld=>?_)
      clear hK K;refine tkb 10 11 ?_;refine td ?_;clear hHeld SS CI CP B1 DR B2;generalize ia col w w2 7=cq at *;have Q2:=gZ RS.o.q.five;have y1:=Q2.o.cells.2.1;rw[EC.o] at y1;obtain⟨gC',egC',cA⟩:=Q2.o.cAt HJ.o;obtain rfl:gC'=gC:=by have:=egC'.symm.trans EC.o;simpa using this
      have fA:w2.frozen? ⟨gC',j,none⟩=false:=by
       have k:=Q2.o.cr;rw[EC.o] at k;exact Q.Gw.free k j
      obtain⟨R3,F3⟩:Hid (Rq (w2.setCell ⟨gC',j,none⟩ (.int .i64 1)) rb {D with C:=D.C.set j 1} (c57 cq))/\Hid (Vf w2 (c57 cq) (w2.setCell ⟨gC',j,none⟩ (.int .i64 1)) (c57 cq)):=Q2.o.setC EC.o j 1;obtain⟨m,hm⟩:∃m,D.C.length=m:=⟨_,rfl⟩;have HMM:=gZ hm;have NPM:Hid (D.P.length=m):=NP.o.trans hm;have hjm:(j:Int)<(m:Int):=by have:=HJ.o;omega
      have him:(i:Int)<(m:Int):=by have:=HI.o;omega
      rw[hm] at y1 h6;clear hm egC';go_upto_region 10 with fail
      generalize w2.setCell ⟨gC',j,none⟩ (.int .i64 1)=w3 at *;clear cA fA y1;have x3:=R3.o.cells.2.2.2.1;dsimp only at x3;rw[EP.o,NPM.o] at x3;obtain⟨gP',egP',hcp⟩:=R3.o.pAt (i:=i) (by show i<(D.C.set j 1).length;rw[aO];exact HI.o)
      obtain rfl:gP'=gP:=by have:=egP'.symm.trans EP.o;simpa using this
      dsimp only at hcp;obtain⟨pp,hpp⟩:∃pp,D.P.getD i Pv.zero=pp:=⟨_,rfl⟩;rw[hpp] at hcp HM SR;have GP:=gZ hpp;clear hpp egP';have PV:Hid (pp.cs=#[.int .i64 pp.kind,.int .i64 pp.level,.slice pp.aI pp.items.length pp.cI,.slice pp.aD pp.data.length pp.cD,.int .i64 pp.next]):=rfl;have DR3:=gZ (dr2 w3)
      have S3:Hid (∀W:World,Below w3.heap.size w3 W->W.cell? ⟨rb,3,none⟩=some (.slice (some ⟨gP',0,none⟩) m D.cP)/\W.cell? ⟨gP',i*5,none⟩=some (.int .i64 pp.kind)/\W.cell? ⟨gP',i*5+1,none⟩=some (.int .i64 pp.level)/\W.cell? ⟨gP',i*5+2,none⟩=some (.slice pp.aI pp.items.length pp.cI)/\W.cell? ⟨gP',i*5+3,none⟩=some (.slice pp.aD pp.data.length pp.cD)/\W.cell? ⟨gP',i*5+4,none⟩=some (.int .i64 pp.next)):=λW hb=>by
       have t0:=hcp 0 _ (by decide) rfl
       have t1:=hcp 1 _ (by decide) rfl
       have t2:=hcp 2 _ (by decide) rfl
       have t3:=hcp 3 _ (by decide) rfl
       have t4:=hcp 4 _ (by decide) rfl
       exact⟨(hb.cell (p:=⟨rb,3,none⟩) (block_lt_of_cell x3)).trans x3,(hb.cell (p:=⟨gP',i*5,none⟩) (block_lt_of_cell t0)).trans t0,(hb.cell (p:=⟨gP',i*5+1,none⟩) (block_lt_of_cell t1)).trans t1,(hb.cell (p:=⟨gP',i*5+2,none⟩) (block_lt_of_cell t2)).trans t2,(hb.cell (p:=⟨gP',i*5+3,none⟩) (block_lt_of_cell t3)).trans t3,(hb.cell (p:=⟨gP',i*5+4,none⟩) (block_lt_of_cell t4)).trans t4⟩
      clear hcp x3;refine wrd S3 DR3.o λhHeld=>?_
      refine tkd 0 1 2 3 ?_;refine tkd 4 5 6 7 ?_;refine tkd 8 9 10 11 ?_;rw[WJ.o,WI.o];refine tkb 12 13 ?_;refine tk 14 ?_;have R4:=gZ (R3.o.keep DR3.o)
      have TH4:Hid (w3.drew.there gP' (j*5) 5):=by
       have hr:=R4.o.pr;dsimp only at hr;rw[EP.o] at hr;exact hr.there5 (by rw[NPM.o];omega)
      obtain⟨R5,F5⟩:Hid (Rq (w3.drew.setCells gP' (j*5) pp.cs.toList) rb _ (c57 cq))/\Hid (Vf w3.drew (c57 cq) (w3.drew.setCells gP' (j*5) pp.cs.toList) (c57 cq)):=R4.o.setP (g:=gP') EP.o j pp (R4.o.pz pp HM.o) (R4.o.ps pp HM.o);refine tw 15 λK hK=>?_
      rw[if_pos (by rfl)]
      refine wp_store_mid (P:=Tryz.prog) 31 _ _ rfl gP' (j*5) pp.cs ?hxs ?hys TH4.o ie (by simp[Pv.cs,Value.oneCell']) ?_
      case hxs=>simp[Act.eval]
      case hys=>rfl
      have S5:Hid ((w3.drew.setCells gP' (j*5) pp.cs.toList).cell? ⟨rb,3,none⟩=some (.slice (some ⟨gP',0,none⟩) m D.cP)/\∀k u,k<5->pp.cs.toList[k]?=some u->(w3.drew.setCells gP' (j*5) pp.cs.toList).cell? ⟨gP',i*5+k,none⟩=some u):=by
       refine⟨?_,λk u hk hu=>?_⟩
       . have z3:=R5.o.cells.2.2.2.1;dsimp only at z3;rw[aO,EP.o,NPM.o] at z3;exact z3
       . obtain⟨gP2,egP2,hc2⟩:=R5.o.pAt (i:=i) (by show i<(D.C.set j 1).length;rw[aO];exact HI.o)
         obtain rfl:gP2=gP':=by have:=egP2.symm.trans EP.o;simpa using this
         refine hc2 k u hk ?_;show((D.P.set j pp).getD i Pv.zero).cs.toList[k]?=some u
         have e5:(D.P.set j pp).getD i Pv.zero=pp:=by
          rw[<-GP.o,aq,bT (λe=>NE.o e.symm),<-aq]
         rw[e5];exact hu
      refine hK.o _ _ ⟨S5.o.1,S5.o.2 0 _ (by decide) rfl,S5.o.2 1 _ (by decide) rfl,S5.o.2 2 _ (by decide) rfl,S5.o.2 3 _ (by decide) rfl,S5.o.2 4 _ (by decide) rfl⟩ (λhHeld=>?_)
      clear hK K S5;refine td ?_;have V5:=gZ (F3.o.trans ((Vf.keep DR3.o).trans F5.o));clear hHeld S3 TH4 R4 F5 DR3 R3 F3 PV;generalize w3.drew.setCells gP' (j*5) pp.cs.toList=w5 at *;obtain⟨D5,hD5⟩:∃X,({D with C:=D.C.set j 1,P:=D.P.set j pp}:Rd)=X:=⟨_,rfl⟩;have R5:Hid (Rq w5 rb D5 (c57 cq)):=by rw[<-hD5];exact R5.o
      rw[hD5] at SR
      have C5:Hid (D5.count ((i:Int)+1)=D.C.getD i 0):=by
       show _=_;have hh5:D5.has ((i:Int)+1)=true:=Rd.has_iff.2 ⟨by omega,by rw[<-hD5];show _<=(((D.C.set j 1).length:Nat):Int);rw[aO];have:=HI.o;omega⟩
       unfold Rd.count;rw[if_pos hh5,<-hD5,show((i:Int)+1-1).toNat=i by omega]
       show(D.C.set j 1).getD i 0=_;rw[aq,bT (λe=>NE.o e.symm),<-aq]
      have D5A:Hid (D5.aA=D.aA/\D5.nA=D.nA/\D5.cA=D.cA/\D5.C.length=D.C.length/\D5.R=D.R/\D5.L=D.L/\D5.fl=D.fl/\D5.hush=D.hush):=by rw[<-hD5];exact⟨rfl,rfl,rfl,aO,rfl,rfl,rfl,rfl⟩
      clear hD5;have LE:=gZ (qD w5 rb D5 (c57 cq) R5.o ((i:Int)+1) (by rw[C5.o];exact CNT.o.1) (by rw[C5.o];exact CNT.o.2) (by rw[D5A.o.2.2.2.2.1];exact HRR.o))
      have LS:=gZ (D5.leave_sm ((i:Int)+1));generalize D5.leave ((i:Int)+1)=rl at *;obtain⟨er,D6⟩:=rl;dsimp only at LE LS SR;go_wp2_with fail
      refine LE.o.mono ?_;rintro _ w6 ⟨rfl,hR6,hF6⟩;obtain⟨R6,F6⟩:Hid (Ra w6 rb D6 H (cold cq w2 (c57 cq)))/\Hid (Vf w2 cq w6 (cold cq w2 (c57 cq))):=RS.o.step hR6 (V5.o.trans hF6) (LS.o.a.trans D5A.o.1) (LS.o.m.trans D5A.o.2.1) (LS.o.c.trans D5A.o.2.2.1) (LS.o.n.trans D5A.o.2.2.2.1)
      have SV6:Hid (Sv w6 (cold cq w2 (c57 cq)) D6.C.length ⟨a1,k1,D.C,a2,k2,D.P⟩):=by
       show Sv _ _ _ _;rw[LS.o.n,D5A.o.2.2.2.1];exact SV.o.vf F6.o
      have F7:=gZ (FSx.o.trans F6.o);clear hR6 hF6 LE RS FSx SV F6 V5 R5 Q2;generalize cold cq w2 (c57 cq)=c6 at *;by_cases he:er=0
      . subst he;rw[if_pos rfl] at SR;have DD:=gZ (mZ w6 rb D6 H c6 R6.o (by rw[LS.o.h,D5A.o.2.2.2.2.2.2.2];exact HH.o) ⟨a1,k1,D.C,a2,k2,D.P⟩ SV6.o HL.o)
        dsimp only at DD;go_wp2_with fail
        refine DD.o.mono ?_;rintro _ w8 ⟨a',c',col8,rfl,hR8,hF8⟩;have R8:=gZ hR8;have F8:=gZ (F7.o.trans hF8);clear hR8 hF8;go_wp2_with fail
        go_ret2
        exact⟨_,_,_,by rw[SR.o];rfl,R8.o,F8.o,by rw[SR.o];exact⟨rfl,rfl,rfl,rfl,rfl,rfl⟩,.inl ⟨⟨by rw[SR.o],HO.o⟩,_,rfl,rfl,rfl⟩⟩
      . have e1:(er==0)=false:=by simp[he]
        have e2:(er != 0)=true:=by simp[he]
        rw[if_neg he] at SR;have HE:=gZ he;clear he;have NN:=gZ (pG w6 rb D6 c6 R6.o.q a1 a2 D.C.length k1 D.P.length k2);obtain⟨U1,U2⟩:Hid (Ra _ rb _ H _)/\Hid (Vf w col _ _):=HR.o.undone R6.o F7.o ⟨a1,k1,D.C,a2,k2,D.P⟩ SV6.o NC.o NPW.o;dsimp only at U1 U2
        have UU:Hid (∀W,W=(w6.setCell ⟨rb,1,none⟩ (.slice a1 D.C.length k1)).setCell ⟨rb,3,none⟩ (.slice a2 D.P.length k2)->Ra W rb (D6.back ⟨a1,k1,D.C,a2,k2,D.P⟩) H (jq c6 ⟨a1,k1,D.C,a2,k2,D.P⟩)/\Vf w col W (jq c6 ⟨a1,k1,D.C,a2,k2,D.P⟩)):=λW hW=>by
         rw[hW];exact⟨U1.o,U2.o⟩
        clear U1 U2;go_wp2_with fail
        refine NN.o.mono ?_;rintro _ w8 ⟨rfl,hw8⟩;have K8:=gZ (UU.o w8 hw8);clear hw8 UU NN;go_wp2_with fail
        go_ret2
        exact⟨_,_,_,by rw[SR.o];rfl,K8.o.1,K8.o.2,by rw[SR.o];exact⟨LS.o.r.trans D5A.o.2.2.2.2.1,rfl,LS.o.l.trans D5A.o.2.2.2.2.2.1,rfl,LS.o.f.trans D5A.o.2.2.2.2.2.2.1,LS.o.h.trans D5A.o.2.2.2.2.2.2.2⟩,.inr ⟨λe=>by have:=e.1;rw[SR.o] at this;exact HE.o this,rfl⟩⟩
 . have SR:Hid (D.shadowR z=((0,15),D)):=by show _=_;unfold Rd.shadowR;rw[if_neg h1]
   rw[au h1] at TH;clear h h1 hcs;go_enter Tryz.func36,Tryz.ntmps36;go_wp2_with fail
   refine TH.o.mono ?_;rintro _ wq ⟨rfl,hwq⟩;rw[hwq];clear hwq;go_wp2_with fail
   go_ret2
   exact⟨D,H,col,by rw[SR.o];rfl,HR.o,Vf.refl _ _,by rw[SR.o];exact Rd.Al.refl D,.inr ⟨λe=>by have:=e.1;rw[SR.o] at this;simp at this,rfl⟩⟩
structure R2(X:Vm)(D:Rd):Prop where
 rel:Rel X D
 pd:∀z,D.state z=2->(X.on z).pg=(D.on z).pg
 fr:∀z,D.state z=1->X.f z=none
theorem Rel.state2(h:Rel X D)(z:Int):X.P.state z=D.state z:=by
 unfold Q.Po.state Rd.state Rd.lasts
 have e:X.P.has z=D.has z:=by
  unfold Q.Po.has Rd.has;rw[h.len]
 rw[e];split
 . rename_i hh;obtain⟨h1,h2⟩:=Rd.has_iff.1 hh;rw[h.pg,Rd.pg_get h.nL (by omega)]
 . rfl
theorem Rd.state_put(hz:D.has z=true)(c y:Int):(D.put z c).state y=if y=z then Q.stt (c,D.lasts z) else D.state y:=by
 obtain⟨h1,h2⟩:=Rd.has_iff.1 hz;have hl:(D.put z c).C.length=D.C.length:=aO;have hh:(D.put z c).has y=D.has y:=by unfold Rd.has;rw[hl]
 unfold Rd.state;rw[hh];by_cases e:y=z
 . subst e;rw[if_pos hz,if_pos rfl];show Q.stt ((D.C.set (y-1).toNat c).getD (y-1).toNat 0,D.lasts y)=_;have hi:(y-1).toNat<D.C.length:=by omega
   generalize (y-1).toNat=k at hi;rw[aq,dF hi];rfl
 . rw[if_neg e];split
   . rename_i hy;obtain⟨k1,k2⟩:=Rd.has_iff.1 hy;show Q.stt ((D.C.set (z-1).toNat c).getD (y-1).toNat 0,D.lasts y)=_;rw[aq,bT (by omega),<-aq]
   . rfl
theorem Rd.count_has{D:Rd}{z:Int}(h:D.count z≠0):D.has z=true:=by
 cases e:D.has z with
 |true=>rfl
 |false=>unfold Rd.count at h;rw[e] at h;exact absurd rfl h
theorem R2.inc(h:R2 S.X D)(z:Int)(h0:(S.X.P.inc z).1=0):R2 ⟨(S.X.P.inc z).2,S.X.f,S.X.ch⟩ (D.inc z).2:=by
 obtain⟨e1,e2,_⟩:=h.rel.inc z;have r:=e2 h0;rw[h0] at e1
 have hi:0<D.count z/\(D.inc z).2=D.put z (D.count z+1):=by
  unfold Rd.inc at e1 ⊢;by_cases k1:0<D.count z
  . rw[if_pos k1] at e1 ⊢;by_cases k2:D.R<=D.count z
    . rw[if_pos k2] at e1;exact absurd (show(13:Int)=0 from e1.symm) (by decide)
    . rw[if_neg k2];exact⟨k1,rfl⟩
  . rw[if_neg k1] at e1;exact absurd (show(15:Int)=0 from e1.symm) (by decide)
 have hz:=Rd.count_has (D:=D) (z:=z) (by omega)
 rw[hi.2] at r ⊢
 have nz:∀l:Bool,Q.stt (D.count z+1,l)=3\/Q.stt (D.count z+1,l)=4:=λl=>by
  unfold Q.stt;have:¬(D.count z+1=0):=by omega
  cases l<;>simp[this]
 refine⟨r,λy hy=>?_,λy hy=>?_⟩
 . rw[Rd.state_put hz] at hy;split at hy
   . rcases nz (D.lasts z) with k|k<;>omega
   . exact h.pd y hy
 . rw[Rd.state_put hz] at hy;split at hy
   . rcases nz (D.lasts z) with k|k<;>omega
   . exact h.fr y hy
theorem R2.less(h:R2 X D)(h0:X.P.count z≠0):R2 (X.less z) (D.put z (D.count z-1)):=by
 have r:=h.rel.less h0;have hz:=Rd.count_has (D:=D) (z:=z) (by rw[<-h.rel.count];exact h0)
 have st:(X.P.dec z).2.state z=(D.put z (D.count z-1)).state z:=by rw[<-r.state2 z,Vm.less_P]
 have fz:∀y,y≠z->(X.less z).f y=X.f y:=λy hy=>by
  unfold Vm.less iK;split
  . simp[hy]
  . rfl
 refine⟨r,λy hy=>?_,λy hy=>?_⟩
 . by_cases e:y=z
   . subst e
     have e3:(X.less y).f=X.f:=by
      unfold Vm.less;rw[if_neg (λk=>by rw[st,hy] at k;exact absurd k.2 (by decide))]
     show(((X.less y).f y).getD Pv.zero).pg=_;rw[e3];exact h.rel.on y h0
   . rw[Rd.state_put hz,if_neg e] at hy;show(((X.less z).f y).getD Pv.zero).pg=_;rw[fz y e];exact h.pd y hy
 . by_cases e:y=z
   . subst e;have e0:(X.P.dec y).1.2=0:=by unfold Q.Po.dec;rw[if_neg h0]
     unfold Vm.less;rw[if_pos ⟨e0,by rw[st];exact hy⟩]
     unfold iK;simp[Pv.zero]
   . rw[Rd.state_put hz,if_neg e] at hy;rw[fz y e];exact h.fr y hy
theorem Pn.free{S:Nat->Prop}{v w':World}{q:Pv}(h:Pn v w q)(hb:But S w w')(hn:∀k,v.heap.size<=k->¬S k):Pn v w' q:=
 ⟨h.it.but hb (λx hx=>hn _ (iz h.itn hx)),h.itn,h.d.but hb (λx hx=>hn _ (iz h.dn hx)),h.dn,λt ht=>⟨(h.fr t ht).1.but hb (λx hx=>hn _ (iz (h.fr t ht).2.1 hx)),(h.fr t ht).2⟩,h.dist,h.d8,h.ns,h.nk,h.nl,h.nn⟩
theorem Vw.row{pb mb:Nat}(h:Vw w b S pb mb pc col){x:Nat}(hx:col x=0)(cs:Array Value):Vw (w.setRow x cs) b S pb mb pc col:=by
 obtain⟨ac,cc,aa,ca,h⟩:=h;exact⟨ac,cc,aa,ca,h.but (Q.iE w x cs) (λk hk e=>hk (by rw[e];exact hx))⟩
theorem Vm.leave_pz{W:World}{fl:Nat}{D:Vd}{col':Nat->Nat}(h:Vx w b X fl D pc col)(hf:Vf w col W col')(z:Int):Pi W (X.leave z).1.1:=by
 unfold Vm.leave;simp only;split
 . exact(h.pz hf (h.on_z z)).pi
 . exact Pi.zero _
theorem Vm.leave_sml(h:Sml (X.on z)):Sml (X.leave z).1.1:=by
 unfold Vm.leave;simp only;split
 . exact h
 . exact⟨by simp[Pv.zero],λx hx=>by cases hx⟩
def Blk(p:Pv)(k:Nat):Prop:=(∃x,p.aI=some x/\x.block=k)\/∃t∈rp p,∃y,t.a=some y/\y.block=k
section
variable {S:Nat->Prop} {v w w':World} {p:Pv}
theorem Pn.rws(h:Pn v w p){t:Br}(ht:t∈rp p):Rw w t.a t.c t.l/\New v none t.a/\B8 t.l:=by
 rcases bP.1 ht with rfl|ht
 . exact⟨h.d,h.dn,h.d8⟩
 . exact h.fr t ht
theorem Pn.blk_lt(h:Pn v w p){k:Nat}(hk:Blk p k):k<w.heap.size:=by
 rcases hk with⟨x,hx,rfl⟩|⟨t,ht,y,hy,rfl⟩
 . exact h.it.lt hx
 . exact(h.rws ht).1.lt hy
theorem Pn.blk_new(h:Pn v w p){k:Nat}(hk:Blk p k):v.heap.size<=k:=by
 rcases hk with⟨x,hx,rfl⟩|⟨t,ht,y,hy,rfl⟩
 . exact iz h.itn hx
 . exact iz (h.rws ht).2.1 hy
theorem Blk.zero{k:Nat}:¬Blk Pv.zero k:=λh=>by
 rcases h with⟨x,hx,_⟩|⟨t,ht,y,hy,_⟩
 . cases hx
 . rcases bP.1 ht with rfl|ht
   . cases hy
   . cases ht
end
def Rd.takeE(D:Rd)(z:Int):Int:=if 0<D.count z then (D.leave z).1 else 15
def Rd.takeP(D:Rd)(z:Int):Pg:=if 0<D.count z/\(D.leave z).1=0 then (D.on z).pg else Pv.zero.pg
def Rd.takeD(D:Rd)(z:Int):Rd:=if 0<D.count z/\(D.leave z).1=0 then (D.leave z).2 else D
def RTk(w:World)(rb:Nat)(D:Rd)(H:List Sn)(col:Nat->Nat)(z:Int)(e:Ending)(w':World):Prop:=∃(q:Pv)(D':Rd)(H':List Sn)(col':Nat->Nat),e=.returned (.tuple #[q.vl,.int .i64 (D.takeE z)])/\q.pg=D.takeP z/\Pn w w' q/\q.items.length<=1048576/\(∀k,Blk q k->col' k=0)/\Ra w' rb D' H' col'/\Vf w col w' col'/\D'.Al (D.takeD z)/\Dn D H (D.takeE z) H'
theorem Ra.row{rb:Nat}{H:List Sn}(h:Ra w rb D H col){g:Nat}(hg:col g=0\/w.heap.size<=g)(cs:Array Value):Ra (w.setRow g cs) rb D H col:=by
 have hb:But (λk=>k=g) w (w.setRow g cs):=iT w g cs
 have q:=h.q
 have ne:∀{k c:Nat},k<w.heap.size->col k=c->c≠0->¬k=g:=λhk e hc e2=>by
  rcases hg with hg|hg
  . rw[e2,hg] at e;exact hc e.symm
  . omega
 have lt:∀{k c:Nat},col k=c->c≠0->k<w.heap.size:=λe hc=>q.lt _ (by rw[e];exact hc)
 exact⟨⟨hb.same q.box (ne q.lb q.cb (by decide)),q.cr.but hb (λx hx=>ne (lt (q.cc x hx) (by decide)) (q.cc x hx) (by decide)),q.lr.but hb (λx hx=>ne (lt (q.cl x hx) (by decide)) (q.cl x hx) (by decide)),q.pr.but hb (λx hx=>ne (lt (q.cp x hx) (by decide)) (q.cp x hx) (by decide)),λp hp=>(q.pz p hp).but hb (λk hk e=>ne hk e (by decide)),q.ps,q.cb,q.cc,q.cl,q.cp,λk hk=>aZ (q.lt k hk) hb.size,q.nL,q.nP,q.n6⟩,
  ⟨h.a.ar.but hb (λx hx=>ne (lt (h.a.ca x hx) (by decide)) (h.a.ca x hx) (by decide)),h.a.na,h.a.ca,λs hs=>(h.a.sv s hs).but hb (λk hk e=>by rcases e with e|e<;>exact ne hk e (by decide))⟩⟩
theorem xF(w:World)(rb:Nat)(D:Rd)(H:List Sn)(col:Nat->Nat)(h:Ra w rb D H col)(z:Int)(h1:¬0<D.count z):
 Calls Tryz.prog 38 #[.pointer (some ⟨rb,0,none⟩),.int .i64 z] w λe w'=>RTk w rb D H col z e w':=by
 have aB:=al w (.cells Pv.zero.cs 31);have TH:=gZ (jL _ rb D col (h.q.keep aB) z);have HX:=gZ (az w (.cells Pv.zero.cs 31));have AB:=gZ aB;have HR:=gZ h
 have E1:Hid (D.takeE z=15/\D.takeP z=Pv.zero.pg/\D.takeD z=D):=by
  unfold Rd.takeE Rd.takeP Rd.takeD;exact⟨if_neg h1,if_neg (λe=>h1 e.1),if_neg (λe=>h1 e.1)⟩
 rw[au h1] at TH;clear h h1 aB;unfold Pv.vl at *;simp only[Pv.cs] at HX AB TH;simp only[Pv.zero,bg] at HX AB TH;have BB:=gZ λ(cs:Array Value)=>((But.ofBelow (S:=λk=>k=w.heap.size) AB.o).trans (Q.iE _ _ cs) (λ_ _ e=>e)).below (λk hk e=>by omega)
 go_enter Tryz.func38,Tryz.ntmps38;go_wp2_with fail
 refine TH.o.mono ?_;rintro _ wq ⟨rfl,hwq⟩;obtain rfl:=hwq.symm;clear hwq;go_wp2_with (first|(refine bU rfl 31 _ _ rfl w.heap.size _ rfl rfl 31 _ HX.o ie rfl (by simp[Value.oneCell']) ?_)|fail)
 refine bQ (v:=.tuple #[.agg _,_]) (iD Tryz.results38 _ _ w.heap.size 31 _ (0,0) _ rfl (cO _ _ _ _ _ _ HX.o) Tryz.underlying31 rfl ie) rfl ?_;refine⟨Pv.zero,D,H,col,by rw[E1.o.1];rfl,E1.o.2.1.symm,Pn.zero _ _,aF _,λk hk=>absurd hk Blk.zero,HR.o.keep (BB.o _),Vf.keep (BB.o _),by rw[E1.o.2.2];exact Rd.Al.refl D,.inr ⟨by rw[E1.o.1];decide,rfl⟩⟩
theorem yr(w:World)(rb:Nat)(D:Rd)(H:List Sn)(col:Nat->Nat)(h:Ra w rb D H col)(hh:D.hush=false)(hH:H.length<=1000000000000)(z:Int)(hR:D.R<=65536)(h1:0<D.count z)(hcs:D.count z<=65536):
 Calls Tryz.prog 38 #[.pointer (some ⟨rb,0,none⟩),.int .i64 z] w λe w'=>RTk w rb D H col z e w':=by
 have aB:=al w (.cells Pv.zero.cs 31);have TH:=gZ (jL _ rb D col (h.q.keep aB) z);have HX:=gZ (az w (.cells Pv.zero.cs 31));have AB:=gZ aB;have HR:=gZ h
 have TE:Hid (D.takeE z=(D.leave z).1/\D.takeP z=(if (D.leave z).1=0 then (D.on z).pg else Pv.zero.pg)/\D.takeD z=if (D.leave z).1=0 then (D.leave z).2 else D):=by
  unfold Rd.takeE Rd.takeP Rd.takeD;refine⟨if_pos h1,?_,?_⟩<;>by_cases e:(D.leave z).1=0<;>simp[e,h1]
 rw[ay h1] at TH
 have hhz:D.has z=true:=by
  cases e:D.has z with
  |true=>rfl
  |false=>unfold Rd.count at h1;rw[e] at h1;exact absurd h1 (by simp)
 obtain⟨z1,z2⟩:=Rd.has_iff.1 hhz;obtain⟨i,hi⟩:∃i:Nat,z=(i:Int)+1:=⟨(z-1).toNat,by omega⟩
 subst hi;have hiC:i<D.C.length:=by omega
 have ei:((i:Int)+1-1).toNat=i:=by omega
 have hon:D.on ((i:Int)+1)=D.P.getD i Pv.zero:=by unfold Rd.on;rw[ei]
 have hmem:=Rd.on_mem h.q hhz;obtain⟨sm,si⟩:=jS (h.q.ps _ hmem);rw[hon] at TE hmem sm si;have HM:=gZ hmem;have SM:=gZ (And.intro sm si);have CI:=gZ λ(W:World)(hb:Below w.heap.size w W)=>Q.jx W D.aC D.C.length D.cC D.C (h.keep hb).q.cr.ir rfl h.q.n6
 have CP:=gZ λ(W:World)(hb:Below w.heap.size w W)=>jj W D.aP D.P.length D.cP D.P (h.keep hb).q.pgs rfl (by rw[h.q.nP];exact h.q.n6)
 have SS:Hid (∀W:World,Below w.heap.size w W->W.cell? ⟨rb,1,none⟩=some (.slice D.aC D.C.length D.cC)/\W.cell? ⟨rb,3,none⟩=some (.slice D.aP D.P.length D.cP)):=λW hb=>⟨(h.keep hb).q.cells.2.1,(h.keep hb).q.cells.2.2.2.1⟩
 have ZB:Hid (col w.heap.size=0):=by
  show _=_;cases e:col w.heap.size with
  |zero=>rfl
  |succ n=>exact absurd (h.q.lt _ (by rw[e];exact Nat.succ_ne_zero n)) (dZ _)
 obtain⟨wA,hwA⟩:∃X,w.alloc (.cells Pv.zero.cs 31)=X:=⟨_,rfl⟩;have HWA:=gZ hwA;have DR:=gZ (bt aB (dr2 (w.alloc (.cells Pv.zero.cs 31))));have DRA:=gZ (dr2 wA);have HRA:Hid (Ra wA rb D H col):=by rw[<-hwA];exact h.keep aB
 have ABA:Hid (Below w.heap.size w wA):=by rw[<-hwA];exact aB
 have BXA:Hid (wA.heap[w.heap.size]?=some (.cells Pv.zero.cs 31 (0,0))):=by rw[<-hwA];exact HX.o
 rw[hwA] at DR TH AB;clear hwA;obtain⟨gP,egP⟩:∃gg,D.aP=some ⟨gg,0,none⟩:=h.q.pr.addr (by rw[h.q.nP];omega)
 have EP:=gZ egP;have NP:=gZ h.q.nP;have h6:=h.q.n6;have si0:(i:Int)+1-1=(i:Int):=by omega
 have WI:Hid (IntKind.i64.wrap ((i:Nat):Int)=(i:Int)):=im (by omega) (by omega)
 have HI:=gZ hiC;have LS:=gZ (D.leave_sm ((i:Int)+1));have LE:=gZ λ(W:World)(c:Nat->Nat)(hq:Rq W rb D c)=>qD W rb D c hq ((i:Int)+1) h1 hcs hR
 have HH:=gZ hh;have HL:=gZ hH;clear h hh hH hR h1 hcs hhz z1 z2 ei hon hmem sm si aB egP;generalize D.leave ((i:Int)+1)=rl at *;obtain⟨er,D6⟩:=rl;dsimp only at LE LS TE;clear HX AB;unfold Pv.vl at *;simp only[Pv.cs] at HWA BXA;simp only[Pv.zero,bg] at HWA BXA;go_enter Tryz.func38,Tryz.ntmps38;go_upto_region 1 with fail
 rw[HWA.o];go_wp2_with fail
 refine TH.o.mono ?_;rintro _ wq ⟨rfl,hwq⟩;obtain rfl:=hwq.symm;clear hwq TH HWA;go_upto_region 3 with fail
 refine wrd SS DR.o λhHeld=>?_
 refine tkd 0 1 2 3 ?_;refine tkd 5 6 7 8 ?_;refine tw 4 λK hK=>?_
 go_simp;refine(CI.o _ DR.o).mono ?_;rintro _ w1 ⟨a1,k1,rfl,hO1⟩;have B1:=gZ (bt DR.o hO1.b);have BA1:=gZ (bt DRA.o hO1.b);have IC:=gZ hO1.r;have NC:=gZ (hO1.n.mono (DRA.o).size);clear hO1;go_wp2_with fail
 refine hK.o _ _ (SS.o _ B1.o) (λhHeld=>?_)
 clear hK K;refine tw 9 λK hK=>?_
 go_simp;refine(CP.o _ B1.o).mono ?_;rintro _ w2 ⟨a2,k2,rfl,hG,hN,hb2⟩;have B2:=gZ (bt B1.o hb2);have BA2:=gZ (bt BA1.o hb2);have NPW:=gZ (hN.mono (BA1.o).size);obtain⟨RS,FSx,SV⟩:Hid (Ra w2 rb D H (ia col wA w2 7))/\Hid (Vf wA col w2 (ia col wA w2 7))/\Hid (Sv w2 (ia col wA w2 7) D.C.length ⟨a1,k1,D.C,a2,k2,D.P⟩):=HRA.o.snap BA2.o (IC.o.keep hb2) hG NC.o NPW.o
 have Z2:Hid (∀k,w2.heap.size<=k->ia col wA w2 7 k=0):=λk hk=>by
  unfold ia;have:=BA2.o.size;rw[if_neg (by omega),if_neg (by omega)]
 clear hb2 hG hN IC;go_wp2_with fail
 refine hK.o _ _ (SS.o _ B2.o) (λhHeld=>?_)
 clear hK K;refine tkb 10 11 ?_;refine td ?_;clear hHeld SS CI CP B1 DR BA1 DRA;have SZ:Hid (wA.heap.size<=w2.heap.size/\w.heap.size<wA.heap.size):=⟨BA2.o.size,(af.1 BXA.o).1⟩;generalize ia col wA w2 7=cq at *;obtain⟨gP',egP',hcp⟩:=RS.o.q.pAt HI.o;obtain rfl:gP'=gP:=by have:=egP'.symm.trans EP.o;simpa using this
 have x3:=RS.o.q.cells.2.2.2.1;rw[EP.o,NP.o] at x3;have him:(i:Int)<(D.C.length:Int):=by have:=HI.o;omega
 obtain⟨pp,hpp⟩:∃pp,D.P.getD i Pv.zero=pp:=⟨_,rfl⟩;rw[hpp] at hcp HM SM TE;have CO:=gZ (jQ w2 pp (RS.o.q.pz pp HM.o).pi SM.o.1.1 SM.o.2 SM.o.1.2);have y0:=hcp 0 _ (by decide) rfl
 have y1:=hcp 1 _ (by decide) rfl
 have y2:=hcp 2 _ (by decide) rfl
 have y3:=hcp 3 _ (by decide) rfl
 have y4:=hcp 4 _ (by decide) rfl
 rw[bY] at y0;unfold Pv.vl at CO;simp only[Pv.cs] at CO;clear hcp hpp egP';go_wp2_with fail
 refine CO.o.mono ?_;rintro _ w3 ⟨r,rfl,hP3,hl3,hg3,hb3⟩;have N3:=gZ hP3;have L3:=gZ hl3;have G3:=gZ hg3;have B3:=gZ hb3;have BK:Hid (∀k,Blk r k->w2.heap.size<=k/\k<w3.heap.size):=λk hk=>⟨hP3.blk_new hk,hP3.blk_lt hk⟩
 have A4:=gZ (al w3 (.cells #[.int .i64 0,.int .i64 0,.slice none 0 0,.slice none 0 0,.int .i64 0] 31));have X4:=gZ (aH w3 (.cells #[.int .i64 0,.int .i64 0,.slice none 0 0,.slice none 0 0,.int .i64 0] 31));have RCS:Hid (r.cs=#[.int .i64 r.kind,.int .i64 r.level,.slice r.aI r.items.length r.cI,.slice r.aD r.data.length r.cD,.int .i64 r.next]):=rfl;clear hP3 hl3 hg3 hb3 CO y0 y1 y2 y3 y4 x3;go_wp2_with (first|(refine bU rfl 31 _ _ rfl w3.heap.size _ rfl rfl 31 _ X4.o ie rfl (by simp[Value.oneCell']) ?_)|fail)
 have G0:Hid (w2.heap.size<=w3.heap.size):=B3.o.size;obtain⟨g,hg⟩:∃g,w3.heap.size=g:=⟨_,rfl⟩;have HG:=gZ hg;have ZG:Hid (cq w3.heap.size=0):=Z2.o _ G0.o;have R5:=gZ (((RS.o.keep B3.o).keep A4.o).row (.inl ZG.o) #[.int .i64 r.kind,.int .i64 r.level,.slice r.aI r.items.length r.cI,.slice r.aD r.data.length r.cD,.int .i64 r.next]);have X5:Hid (((w3.alloc (.cells #[.int .i64 0,.int .i64 0,.slice none 0 0,.slice none 0 0,.int .i64 0] 31)).setRow w3.heap.size #[.int .i64 r.kind,.int .i64 r.level,.slice r.aI r.items.length r.cI,.slice r.aD r.data.length r.cD,.int .i64 r.next]).heap[w3.heap.size]?=some (.cells #[.int .i64 r.kind,.int .i64 r.level,.slice r.aI r.items.length r.cI,.slice r.aD r.data.length r.cD,.int .i64 r.next] 31 (0,0))):=cO _ _ _ _ _ _ X4.o;have FW:=gZ ((Vf.keep (c:=cq) (bt B3.o A4.o)).row (x:=w3.heap.size) G0.o #[.int .i64 r.kind,.int .i64 r.level,.slice r.aI r.items.length r.cI,.slice r.aD r.data.length r.cD,.int .i64 r.next]);have N5:=gZ ((N3.o.keep A4.o).row X4.o (by decide) (by decide) #[.int .i64 r.kind,.int .i64 r.level,.slice r.aI r.items.length r.cI,.slice r.aD r.data.length r.cD,.int .i64 r.next])
 have L5:Hid (r.items.length<=1048576):=by show _<=_;rw[L3.o];exact SM.o.2
 have J5:Hid (Pz (λk=>w2.heap.size<=k/\k<w3.heap.size) ((w3.alloc (.cells #[.int .i64 0,.int .i64 0,.slice none 0 0,.slice none 0 0,.int .i64 0] 31)).setRow w3.heap.size #[.int .i64 r.kind,.int .i64 r.level,.slice r.aI r.items.length r.cI,.slice r.aD r.data.length r.cD,.int .i64 r.next]) r):=by
  have k0:=(N3.o.pz (col:=λ_=>0) (aU L5.o (by decide))).mono (C':=λk=>w2.heap.size<=k/\k<w3.heap.size) (λk hk e=>by
   unfold ia at e;split at e
   . cases e
   . exact⟨by omega,hk⟩)
  exact(k0.keep A4.o).but (iT _ _ _) (λk _ e e2=>by omega)
 clear N3 L3 A4 X4 B3 ZG RS;generalize (w3.alloc (.cells #[.int .i64 0,.int .i64 0,.slice none 0 0,.slice none 0 0,.int .i64 0] 31)).setRow w3.heap.size #[.int .i64 r.kind,.int .i64 r.level,.slice r.aI r.items.length r.cI,.slice r.aD r.data.length r.cD,.int .i64 r.next]=w5 at *;rw[hg] at X5 J5 G0 BK ⊢;clear hg HG;have BX5:=gZ ((FSx.o.trans FW.o).box BXA.o ZB.o);go_wp2_with fail
 refine(LE.o _ _ R5.o.q.five).mono ?_;rintro _ w6 ⟨rfl,hR6,hF6⟩;obtain⟨R6,F6⟩:Hid (Ra w6 rb D6 H (cold cq w5 (c57 cq)))/\Hid (Vf w5 cq w6 (cold cq w5 (c57 cq))):=R5.o.step hR6 hF6 LS.o.a LS.o.m LS.o.c LS.o.n
 have Z6:Hid (∀k,w2.heap.size<=k->cold cq w5 (c57 cq) k=0):=λk hk=>by
  have e:=Z2.o k hk;unfold cold c57;rw[e];simp
 have SV6:Hid (Sv w6 (cold cq w5 (c57 cq)) D6.C.length ⟨a1,k1,D.C,a2,k2,D.P⟩):=by
  show Sv _ _ _ _;rw[LS.o.n];exact(SV.o.vf FW.o).vf F6.o
 have F7:=gZ (FSx.o.trans (FW.o.trans F6.o));have X6:=gZ (F6.o.box X5.o (Z2.o _ G0.o));have N6:=gZ (N5.o.free F6.o.b (λk hk e=>by rw[Z2.o k hk] at e;omega))
 have J6:=gZ (J5.o.but F6.o.b (λk _ e e2=>by rw[Z2.o k e.1] at e2;omega))
 have BX6:=gZ (F7.o.box BXA.o ZB.o);have S6:Hid (w5.heap.size<=w6.heap.size):=F6.o.b.size;have GW:Hid (g<w5.heap.size):=(af.1 X5.o).1;clear hR6 hF6 LE FSx SV F6 X5 N5 J5 BX5 R5 FW;generalize cold cq w5 (c57 cq)=c6 at *;by_cases he:er=0
 . subst he;simp only[if_pos] at TE;have DD:=gZ (mZ w6 rb D6 H c6 R6.o (by rw[LS.o.h];exact HH.o) ⟨a1,k1,D.C,a2,k2,D.P⟩ SV6.o HL.o)
   dsimp only at DD;go_wp2_with fail
   refine DD.o.mono ?_;rintro _ w8 ⟨a',c',col8,rfl,hR8,hF8⟩;have R8:=gZ hR8;have F8:=gZ (F7.o.trans hF8);have X8:=gZ (hF8.box X6.o (Z6.o _ G0.o));have N8:=gZ (N6.o.free hF8.b (λk hk e=>by rw[Z6.o k hk] at e;omega))
   have J8:=gZ (J6.o.but hF8.b (λk _ e e2=>by rw[Z6.o k e.1] at e2;omega))
   have C8:Hid (∀k,w2.heap.size<=k->k<g->col8 k=0):=λk h1 h2=>(hF8.c k (by have:=GW.o;have:=S6.o;omega)).trans (Z6.o k h1)
   have ZB8:Hid (col8 w.heap.size=0):=(F8.o.c _ SZ.o.2).trans ZB.o;have BX8:=gZ (F8.o.box BXA.o ZB.o);obtain⟨x0,x1,x2,x3,x4⟩:=ik X8.o;clear hR8 hF8 DD X6 N6 J6 BX6 SV6 F7 R6;go_wp2_with (first|(refine bU rfl 31 _ _ rfl w.heap.size _ rfl rfl 31 _ BX8.o ie rfl (by simp[Value.oneCell']) ?_)|fail)
   refine bQ (v:=.tuple #[.agg _,_]) (iD Tryz.results38 _ _ w.heap.size 31 _ (0,0) _ rfl (cO _ _ _ _ _ _ BX8.o) Tryz.underlying31 rfl ie) rfl ?_;exact⟨r,_,_,col8,by rw[TE.o.1];rfl,G3.o.trans TE.o.2.1.symm,(N8.o.row BX8.o (by decide) (by decide) _).pre (by have:=SZ.o;omega),L5.o,λk hk=>C8.o k (BK.o k hk).1 (BK.o k hk).2,R8.o.row (.inl ZB8.o) _,((Vf.keep ABA.o).trans F8.o).row (ai _) _,by rw[TE.o.2.2];exact⟨rfl,rfl,rfl,rfl,rfl,rfl⟩,.inl ⟨by rw[TE.o.1],_,rfl,rfl,rfl⟩⟩
 . have e1:(er==0)=false:=by simp[he]
   have e2:(er != 0)=true:=by simp[he]
   simp only[if_neg he] at TE;have HE:=gZ he;clear he;have NN:=gZ (pG w6 rb D6 c6 R6.o.q a1 a2 D.C.length k1 D.P.length k2);obtain⟨U1,U2⟩:Hid (Ra _ rb _ H _)/\Hid (Vf wA col _ _):=HRA.o.undone R6.o F7.o ⟨a1,k1,D.C,a2,k2,D.P⟩ SV6.o NC.o NPW.o;dsimp only at U1 U2
   have UU:Hid (∀W,W=(w6.setCell ⟨rb,1,none⟩ (.slice a1 D.C.length k1)).setCell ⟨rb,3,none⟩ (.slice a2 D.P.length k2)->Ra W rb (D6.back ⟨a1,k1,D.C,a2,k2,D.P⟩) H (jq c6 ⟨a1,k1,D.C,a2,k2,D.P⟩)/\Vf wA col W (jq c6 ⟨a1,k1,D.C,a2,k2,D.P⟩)):=λW hW=>by
    rw[hW];exact⟨U1.o,U2.o⟩
   clear U1 U2 X6 N6 J6 BX6;go_wp2_with fail
   refine NN.o.mono ?_;rintro _ w8 ⟨rfl,hw8⟩;obtain⟨R8,F8⟩:Hid (Ra w8 rb (D6.back ⟨a1,k1,D.C,a2,k2,D.P⟩) H (jq c6 ⟨a1,k1,D.C,a2,k2,D.P⟩))/\Hid (Vf wA col w8 (jq c6 ⟨a1,k1,D.C,a2,k2,D.P⟩)):=UU.o w8 hw8;have BX8:=gZ (F8.o.box BXA.o ZB.o);have ZB8:Hid (jq c6 ⟨a1,k1,D.C,a2,k2,D.P⟩ w.heap.size=0):=(F8.o.c _ SZ.o.2).trans ZB.o;clear hw8 UU NN;go_wp2_with (first|(refine bU rfl 31 _ _ rfl w.heap.size _ rfl rfl 31 _ BX8.o ie rfl (by simp[Value.oneCell']) ?_)|fail)
   refine bQ (v:=.tuple #[.agg _,_]) (iD Tryz.results38 _ _ w.heap.size 31 _ (0,0) _ rfl (cO _ _ _ _ _ _ BX8.o) Tryz.underlying31 rfl ie) rfl ?_;exact⟨Pv.zero,_,_,_,by rw[TE.o.1];rfl,TE.o.2.1.symm,Pn.zero _ _,aF _,λk hk=>absurd hk Blk.zero,R8.o.row (.inl ZB8.o) _,((Vf.keep ABA.o).trans F8.o).row (ai _) _,by rw[TE.o.2.2];exact⟨LS.o.r,rfl,LS.o.l,rfl,LS.o.f,LS.o.h⟩,.inr ⟨by rw[TE.o.1];exact HE.o,rfl⟩⟩
theorem R2.more:∀(L:List Int)(X:Vm)(D:Rd),R2 X D->(X.more L).1=(D.incs L).1/\((X.more L).1=0->R2 (X.more L).2 (D.incs L).2)
 | [],X,D,h=>⟨rfl,λ_=>h⟩
 |z::L,X,D,h=>by
  have k:=h.rel.inc (S:=⟨X,[],0⟩) z;have k1:(X.P.inc z).1=(D.inc z).1:=k.1;by_cases e:(X.P.inc z).1=0
  . have e2:(D.inc z).1=0:=k1.symm.trans e;have r:=R2.more L ⟨(X.P.inc z).2,X.f,X.ch⟩ _ (R2.inc (S:=⟨X,[],0⟩) h z e)
    have h1:X.more (z::L)=(⟨(X.P.inc z).2,X.f,X.ch⟩:Vm).more L:=by
     unfold Vm.more;show((if (X.P.inc z).1=0 then incAll (X.P.inc z).2 L else X.P.inc z).1,_)=_
     simp only[incAll,if_pos e]
    have h2:D.incs (z::L)=(D.inc z).2.incs L:=by
     show(if (D.inc z).1=0 then _ else _)=_
     rw[if_pos e2]
    rw[h1,h2];exact r
  . have e2:(D.inc z).1≠0:=λx=>e (k1.trans x)
    have h1:(X.more (z::L)).1=(X.P.inc z).1:=by
     show(if (X.P.inc z).1=0 then incAll (X.P.inc z).2 L else X.P.inc z).1=_
     rw[if_neg e]
    have h2:D.incs (z::L)=D.inc z:=by
     show(if (D.inc z).1=0 then _ else _)=_
     rw[if_neg e2]
    rw[h1,h2];exact⟨k1,λx=>absurd x e⟩
theorem R2.left(h:R2 X D)(h0:0<D.count z):(X.left z).1=(D.leave z).1/\((X.left z).1=0->R2 (X.left z).2 (D.leave z).2):=by
 have hc:X.P.count z=D.count z:=h.rel.count z;have hx:X.P.count z≠0:=by omega
 have ls:=h.less hx;have d1:(X.P.dec z).1=(X.P.count z-1,0):=by unfold Q.Po.dec;rw[if_neg hx]
 unfold Vm.left Rd.leave;rw[d1,hc];by_cases e:D.count z-1=0
 . rw[if_neg (λk=>by have:=k.2;dsimp only at this;omega),if_pos e]
   rw[e] at ls;exact⟨rfl,λ_=>ls⟩
 . rw[if_pos ⟨rfl,by dsimp only;omega⟩,if_neg e,h.rel.on z hx]
   exact R2.more _ _ _ ls
theorem R2.take(h:R2 X D)(h0:0<D.count z):(X.leave z).1.2=D.takeE z/\(X.leave z).1.1.pg=D.takeP z/\((X.leave z).1.2=0->R2 (X.leave z).2 (D.takeD z)):=by
 obtain⟨k1,k2⟩:=h.left h0;have hx:X.P.count z≠0:=by rw[h.rel.count z];omega
 unfold Vm.leave Rd.takeE Rd.takeP Rd.takeD;dsimp only;rw[if_pos h0];refine⟨k1,?_,λe=>?_⟩
 . by_cases e:(X.left z).1=0
   . rw[if_pos e,if_pos ⟨h0,k1.symm.trans e⟩];exact h.rel.on z hx
   . rw[if_neg e,if_neg (λk=>e (k1.trans k.2))]
 . rw[if_pos ⟨h0,k1.symm.trans e⟩];exact k2 e
end Go.Proofs.YtbdkogimlbnlmaaGreat
