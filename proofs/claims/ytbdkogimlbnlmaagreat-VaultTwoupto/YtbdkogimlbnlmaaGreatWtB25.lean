import Derived.Test.YtbdkogimlbnlmaaGreatWtB24
set_option linter.unusedVariables false
set_option linter.unusedSimpArgs false
set_option maxHeartbeats 32000000
set_option maxRecDepth 8000
namespace Go.Proofs.YtbdkogimlbnlmaaGreat
open Go.RowKit
variable {s:Int}{c g i rb:Nat}{col:Nat->Nat}{a:Option Addr}{D:Rd}{t:TypeId}{W w wx wy:World}
theorem Ra.settled{H:List Sn}(h:Ra w rb D H col)(f:Int):
 Ra ((w.setCell ⟨rb,5,none⟩ (.int .i64 f)).setCell ⟨rb,4,none⟩ (.slice none 0 0)) rb {D with aA:=none,nA:=0,cA:=0,fl:=f} [] col/\Vf w col ((w.setCell ⟨rb,5,none⟩ (.int .i64 f)).setCell ⟨rb,4,none⟩ (.slice none 0 0)) col:=by
 have q:=h.q;have bs:But (λk=>k=rb) w ((w.setCell ⟨rb,5,none⟩ (.int .i64 f)).setCell ⟨rb,4,none⟩ (.slice none 0 0)):=((But.refl (λk=>k=rb) w).setCell (p:=⟨rb,5,none⟩) (λ_=>rfl) _).setCell (p:=⟨rb,4,none⟩) (λ_=>rfl) _
 have ne:∀{k c:Nat},col k=c->c≠1->¬k=rb:=λe hc e2=>hc (by rw[<-e,e2];exact q.cb)
 refine⟨⟨⟨?_,q.cr.but bs (λx hx=>ne (q.cc x hx) (by decide)),q.lr.but bs (λx hx=>ne (q.cl x hx) (by decide)),q.pr.but bs (λx hx=>ne (q.cp x hx) (by decide)),λp hp=>(q.pz p hp).but bs (λk _ e=>ne e (by decide)),q.ps,q.cb,q.cc,q.cl,q.cp,λk hk=>aZ (q.lt k hk) bs.size,q.nL,q.nP,q.n6⟩,⟨Q.Gw.nil _ _ _,rfl,λx hx=>(by cases hx),λs hs=>(by cases hs)⟩⟩,oR (by rw[q.cb];decide) bs⟩
 rw[aM _ _ _ _ _ _ (aM _ _ _ _ _ _ q.box)];rfl
def RSe(w:World)(rb:Nat)(D:Rd)(H:List Sn)(col:Nat->Nat)(e:Ending)(w':World):Prop:=e=.returned (.tuple #[])/\∃(D1 D':Rd)(col':Nat->Nat),D.Set D1 D.C.length/\Ra w' rb D' [] col'/\Vf w col w' col'/\D'.Al {D1 with fl:=D.fl+(H.length:Int)}
theorem xT(w:World)(rb:Nat)(D:Rd)(H:List Sn)(col0:Nat->Nat)(hra:Ra w rb D H col0)(hf:0<=D.fl/\D.fl<=1000000000000)(hH:H.length<=1000000000000):
 Calls Tryz.prog 58 #[.pointer (some ⟨rb,0,none⟩)] w λe w'=>RSe w rb D H col0 e w':=by
 obtain⟨col,hcol⟩:∃c,c57 col0=c:=⟨_,rfl⟩;have HCO:=ig hcol;have h:Rq w rb D col:=by rw[<-hcol];exact hra.q.five
 have HRA:=ig hra;have HFL:=ig hf;have HHL:=ig hH;clear hcol hra hf hH;have HQ:=ig h;have hL:=h.nL;have hP:=h.nP;have h6:=h.n6;obtain⟨m,hm⟩:∃m,D.C.length=m:=⟨_,rfl⟩;rw[hm] at hL hP h6;have HM:=ig hm;clear h hm;go_enter Tryz.func58,Tryz.ntmps58;go_wp2_with fail
 go_loopw [2] (λvk wx=>∃(k:Nat)(D':Rd),k<=m/\vk=.int .i64 (k:Int)/\D.Set D' k/\Rq wx rb D' col/\Vf w col wx col) (λvk _=>m-(intOf vk).toNat)
 case atStart=>exact⟨0,D,aF _,rfl,Rd.Set.start D,HQ.o,Vf.refl _ _⟩
 case round=>
  obtain⟨k,D',hk,rfl,hS,hR,hF⟩:=hrel;have SE:=ig hS;have RR:=ig hR;have FF:=ig hF;have eC:D'.C=D.C:=by rw[hS.e]
  have eL:D'.L.length=m:=hS.nl.trans hL;have eP:D'.P.length=m:=hS.np.trans hP;have EC:=ig eC;obtain⟨y0,y1,y2,y3,y6⟩:=hR.cells;rw[eC,HM.o] at y1;rw[eL] at y2;rw[eP] at y3;have EL:=ig eL;have EP:=ig eP;clear hS hR hF eC eL eP;by_cases hlt:k<m
  . have hki:(k:Int)<(m:Int):=by omega
    have hkC:k<D'.C.length:=by rw[EC.o,HM.o];exact hlt
    obtain⟨g,eg,cA⟩:=RR.o.cAt hkC;obtain⟨g2,eg2,lA⟩:=RR.o.lAt hkC;obtain⟨gP,egP⟩:∃gg,D'.aP=some ⟨gg,0,none⟩:=RR.o.pr.addr (by rw[EP.o];omega)
    rw[eg] at y1;rw[eg2] at y2;rw[egP] at y3;have EG:=ig eg;have EG2:=ig eg2;have EGP:=ig egP;rw[EC.o] at cA;obtain⟨x,hx⟩:∃x,D.C.getD k 0=x:=⟨_,rfl⟩;rw[hx] at cA;have HX:=ig hx
    have fL:Hid (∀W:World,Below wr.heap.size wr W->W.frozen? ⟨g2,k,none⟩=false/\W.cell? ⟨g2,k,none⟩=some (.bool (D'.L.getD k false))):=λW hb=>by
     obtain⟨g3,eg3,lA3⟩:=(RR.o.keep hb).lAt hkC;obtain rfl:g3=g2:=by have:=eg3.symm.trans EG2.o;simpa using this
     have kk:=(RR.o.keep hb).lr;rw[EG2.o] at kk;exact⟨kk.free k,lA3⟩
    have DR:=ig (dr2 wr);have SS:Hid (∀W:World,Below wr.heap.size wr W->W.cell? ⟨rb,1,none⟩=some (.slice (some ⟨g,0,none⟩) m D'.cC)/\W.cell? ⟨rb,2,none⟩=some (.slice (some ⟨g2,0,none⟩) m D'.cL)/\W.cell? ⟨g,k,none⟩=some (.int .i64 x)):=λW hb=>⟨(hb.cell (p:=⟨rb,1,none⟩) (block_lt_of_cell y1)).trans y1,(hb.cell (p:=⟨rb,2,none⟩) (block_lt_of_cell y2)).trans y2,(hb.cell (p:=⟨g,k,none⟩) (block_lt_of_cell cA)).trans cA⟩
    clear eg eg2 egP hx lA hkC;go_wp2_with fail
    refine wrd SS DR.o λhHeld=>?_
    refine tkd 0 1 2 3 ?_;refine tkd 4 5 6 7 ?_;refine tkd 8 9 10 11 ?_;refine tkb 12 13 ?_;have Rd0:=ig (RR.o.keep DR.o);obtain⟨R2,F2⟩:Hid (Rq (wr.drew.setCell ⟨g2,k,none⟩ (.bool (decide (0<x)))) rb _ col)/\Hid (Vf wr.drew col (wr.drew.setCell ⟨g2,k,none⟩ (.bool (decide (0<x)))) col):=Rd0.o.setL EG2.o k (decide (0<x))
    have S2:Hid ((wr.drew.setCell ⟨g2,k,none⟩ (.bool (decide (0<x)))).cell? ⟨rb,1,none⟩=some (.slice (some ⟨g,0,none⟩) m D'.cC)/\(wr.drew.setCell ⟨g2,k,none⟩ (.bool (decide (0<x)))).cell? ⟨rb,2,none⟩=some (.slice (some ⟨g2,0,none⟩) m D'.cL)/\(wr.drew.setCell ⟨g2,k,none⟩ (.bool (decide (0<x)))).cell? ⟨g,k,none⟩=some (.int .i64 x)):=by
     obtain⟨z0,z1,z2,z3,z6⟩:=R2.o.cells;dsimp only at z1 z2;rw[aS,EL.o,EG2.o] at z2;rw[EC.o,HM.o,EG.o] at z1;obtain⟨g3,eg3,cA3⟩:=R2.o.cAt (i:=k) (by dsimp only;rw[EC.o,HM.o];exact hlt)
     dsimp only at eg3 cA3;obtain rfl:g3=g:=by have:=eg3.symm.trans EG.o;simpa using this
     rw[EC.o,HX.o] at cA3;exact⟨z1,z2,cA3⟩
    refine tw 14 λK hK=>?_
    obtain⟨f0,c0⟩:=fL.o wr.drew DR.o;go_simp;refine hK.o _ _ S2.o (λhHeld=>?_)
    clear hK K f0 c0;refine td ?_;have EW:wr.drew.setCell ⟨g2,k,none⟩ (.bool (decide (0<x)))=(wr.setCell ⟨g2,k,none⟩ (.bool (decide (0<x)))).drew:=rfl;rw[<-EW];clear EW;obtain⟨y1,y2,cA⟩:=S2.o;have F3:=ig ((FF.o.trans (Vf.keep DR.o)).trans F2.o);clear hHeld SS S2 fL F2 FF Rd0;generalize wr.drew.setCell ⟨g2,k,none⟩ (.bool (decide (0<x)))=w2 at *;by_cases hx0:x=0
    . subst hx0;have D2S:=ig (SE.o.step1 (by rw[hL];exact hlt) (by rw[hP];exact hlt) HX.o)
      rw[HX.o] at D2S
      have y3:w2.cell? ⟨rb,3,none⟩=some (.slice (some ⟨gP,0,none⟩) m D'.cP):=by
       obtain⟨z0,z1,z2,z3,z6⟩:=R2.o.cells;dsimp only at z3;rw[EP.o,EGP.o] at z3;exact z3
      have TH5:Hid (w2.there gP (k*5) 5):=by
       have hr:=R2.o.pr;dsimp only at hr;rw[EGP.o] at hr;exact hr.there5 (by rw[EP.o];omega)
      obtain⟨R6,F6⟩:Hid (Rq (w2.setCells gP (k*5) Pv.zero.cs.toList) rb _ col)/\Hid (Vf w2 col (w2.setCells gP (k*5) Pv.zero.cs.toList) col):=R2.o.setP (g:=gP) EGP.o k Pv.zero (Pz.zero _ _) (.inr rfl);rw[show Pv.zero.cs=#[.int .i64 0,.int .i64 0,.slice none 0 0,.slice none 0 0,.int .i64 0] from rfl] at R6 F6
      have F7:=ig (F3.o.trans F6.o);clear R2 F3 F6 SE;go_wp2_with (refine wpList_store_mid (P:=Tryz.prog) rfl 31 _ _ rfl gP (k*5) #[.int .i64 0,.int .i64 0,.slice none 0 0,.slice none 0 0,.int .i64 0] ?hx1 ?hy1 ?ht1 iq ?ho1 ?_)
      try case hx1=>rfl
      try case hy1=>rfl
      try case ht1=>exact TH5.o
      try case ho1=>simp[Value.oneCell']
      generalize w2.setCells gP (k*5) #[.int .i64 0,.int .i64 0,.slice none 0 0,.slice none 0 0,.int .i64 0].toList=w6 at *;clear TH5 y1 y2 y3 cA;go_roundw
      case rel=>exact⟨k+1,_,by omega,by go_num,D2S.o,R6.o,F7.o⟩
      case measure=>simp[intOf];omega
    . have D2S:=ig (SE.o.step0 (by rw[hL];exact hlt) (by rw[HX.o];exact hx0))
      rw[HX.o] at D2S;have dx:(x==0)=false:=by simp[hx0]
      clear hx0 SE;go_wp2_with fail
      go_roundw
      case rel=>exact⟨k+1,_,by omega,by go_num,D2S.o,R2.o,F3.o⟩
      case measure=>simp[intOf];omega
  . have hki:¬((k:Int)<(m:Int)):=by omega
    have hkm:k=m:=by omega
    subst hkm;have EE:=ig SE.o.e;obtain⟨R3,F3⟩:Hid (Ra wr rb D' H (cold col0 w col))/\Hid (Vf w col0 wr (cold col0 w col)):=HRA.o.step RR.o (by rw[HCO.o];exact FF.o) (by rw[EE.o]) (by rw[EE.o]) (by rw[EE.o]) (by rw[EE.o])
    have FL:Hid (D'.fl=D.fl):=by show _=_;rw[EE.o]
    have MK:=ig (lC wr rb D' H _ R3.o (by rw[FL.o];exact HFL.o) HHL.o)
    rw[FL.o] at MK;clear RR FF;generalize cold col0 w col=c3 at *;go_wp2_with fail
    refine MK.o.mono ?_;rintro _ w2 ⟨rfl,hb2⟩;have R2:=ig (R3.o.keep hb2);have F2:=ig (F3.o.trans (Vf.keep (c:=c3) hb2));clear hb2 y1 y2 y3 y0 y6 MK R3 F3;have c5:=R2.o.c5;have c4:=R2.o.c4;have f5:w2.frozen? ⟨rb,5,none⟩=false:=bq _ _ _ _ _ R2.o.q.box;have f4:w2.frozen? ⟨rb,4,none⟩=false:=bq _ _ _ _ _ R2.o.q.box;obtain⟨K1,K2⟩:Hid (Ra _ rb _ [] c3)/\Hid (Vf w2 c3 _ c3):=R2.o.settled (D.fl+(H.length:Int));have F4:=ig (F2.o.trans K2.o);clear K2 F2 R2;go_wp2_with fail
    go_end0
    exact⟨rfl,D',_,c3,by rw[HM.o];exact SE.o,K1.o,F4.o,⟨rfl,rfl,rfl,rfl,rfl,rfl⟩⟩
def d7(col0:Nat->Nat)(w:World)(col:Nat->Nat)(a1 a2:Option Addr)(k:Nat):Nat:=if jz a1 k=true then 7 else if jz a2 k=true then 7 else cold col0 w col k
theorem Dl.seven{D0:Rd}{col0:Nat->Nat}{a1:Option Addr}{k1:Nat}{a2:Option Addr}{k2:Nat}{L:List Int}{H:List Sn}(h:Dl w rb D0 col a1 k1 a2 k2 wx D L a c)(h0:Ra w rb D0 H col0)(hc:c57 col0=col):
 Ra wx rb D H (d7 col0 w col a1 a2)/\Vf w col0 wx (d7 col0 w col a1 a2)/\Sv wx (d7 col0 w col a1 a2) D.C.length ⟨a1,k1,D0.C,a2,k2,D0.P⟩:=by
 have f0:Vf w (c57 col0) wx col:=by rw[hc];exact h.f
 obtain⟨k,f⟩:=h0.step h.q f0 (by rw[h.e]) (by rw[h.e]) (by rw[h.e]) h.n
 have eP:D.P=D0.P:=by rw[h.e]
 have old:∀{j:Nat},j<w.heap.size->d7 col0 w col a1 a2 j=cold col0 w col j:=λ{j} hj=>by
  unfold d7;rw[if_neg (λe=>by obtain⟨x,hx,e⟩:=iC.1 e;have:=iG h.cn hx;omega),if_neg (λe=>by obtain⟨x,hx,e⟩:=iC.1 e;have:=iG h.pn hx;omega)]
 have at0:∀{j c:Nat},cold col0 w col j=c->c≠0->d7 col0 w col a1 a2 j=c:=λ{j c} e hc2=>by
  by_cases hj:j<w.heap.size
  . rw[old hj];exact e
  . exfalso;unfold cold at e;rw[if_neg hj,<-hc] at e;have:col0 j≠0:=λe0=>hc2 (by rw[<-e];exact kD e0 (by decide))
    exact hj (h0.q.lt j this)
 have q:=k.q;refine⟨⟨⟨q.box,q.cr,q.lr,q.pr,λp hp=>(q.pz p hp).mono (λj _ e=>at0 e (by decide)),q.ps,at0 q.cb (by decide),λx hx=>at0 (q.cc x hx) (by decide),λx hx=>at0 (q.cl x hx) (by decide),λx hx=>at0 (q.cp x hx) (by decide),λj hj=>?_,q.nL,q.nP,q.n6⟩,⟨k.a.ar,k.a.na,λx hx=>at0 (k.a.ca x hx) (by decide),λt ht=>(k.a.sv t ht).recol (λj _ e=>at0 rfl (by omega))⟩⟩,⟨f.b,λj hj=>(old hj).trans (f.c j hj)⟩,⟨h.ca,h.pa,λp hp=>(q.pz p (by rw[eP];exact hp)).mono (λj _ e=>at0 e (by decide)),λp hp=>q.ps p (by rw[eP];exact hp),h.n.symm,?_,λx hx=>if_pos (iC.2 ⟨x,hx,rfl⟩),λx hx=>?_⟩⟩
 . unfold d7 at hj;split at hj
   . rename_i e;obtain⟨x,hx,e⟩:=iC.1 e;rw[<-e];exact Q.Gw.lt h.ca hx
   . split at hj
     . rename_i e;obtain⟨x,hx,e⟩:=iC.1 e;rw[<-e];exact h.pa.lt hx
     . exact q.lt j hj
 . show D0.P.length=D.C.length;rw[<-eP];exact q.nP
 . show d7 col0 w col a1 a2 x.block=7;unfold d7;split
   . rfl
   . rw[if_pos (iC.2 ⟨x,hx,rfl⟩)]
def RDp(w:World)(rb:Nat)(D:Rd)(H:List Sn)(col:Nat->Nat)(z:Int)(e:Ending)(w':World):Prop:=∃(D':Rd)(H':List Sn)(col':Nat->Nat),Ra w' rb D' H' col'/\Vf w col w' col'/\
 ((e=.returned (.int .i64 0)/\∃D2,Rd.dropS (D.tot+1) D [z]=some D2/\D'.Al D2/\∃s:Sn,s.C=D.C/\s.P=D.P/\H'=H++[s])\/(e=.returned (.int .i64 15)/\Rd.dropS (D.tot+1) D [z]=none/\D'.Al D/\H'=H))
theorem Bd(w:World)(rb:Nat)(D:Rd)(H:List Sn)(col0:Nat->Nat)(hra:Ra w rb D H col0)(hh:D.hush=false)(hH:H.length<=1000000000000)(hn:0<D.C.length)(hcs:∀c∈D.C,c<=65536)(z:Int):
 Calls Tryz.prog 43 #[.pointer (some ⟨rb,0,none⟩),.int .i64 z] w λe w'=>RDp w rb D H col0 z e w':=by
 obtain⟨col,hcol⟩:∃c,c57 col0=c:=⟨_,rfl⟩;have HCO:=ig hcol;have h:Rq w rb D col:=by rw[<-hcol];exact hra.q.five
 have HRA:=ig hra;have HHL:=ig hH;clear hcol hra hH;have CI:=ig λ(W:World)(hb:Below w.heap.size w W)=>Q.jC W D.aC D.C.length D.cC D.C (h.keep hb).cr.ir rfl h.n6
 have CP:=ig λ(W:World)(hb:Below w.heap.size w W)=>jr W D.aP D.P.length D.cP D.P (h.keep hb).pgs rfl (by rw[h.nP];exact h.n6)
 have SS:Hid (∀W:World,Below w.heap.size w W->W.cell? ⟨rb,1,none⟩=some (.slice D.aC D.C.length D.cC)/\W.cell? ⟨rb,3,none⟩=some (.slice D.aP D.P.length D.cP)):=λW hb=>⟨(h.keep hb).cells.2.1,(h.keep hb).cells.2.2.2.1⟩
 have HQ:=ig h;have HH:=ig hh;have TOTB:Hid (D.tot<=D.C.length*65536):=vF Int.toNat 65536 D.C (λc hc=>by have:=hcs c hc;omega)
 have HLT:=ig h.lt;have DR:=ig (dr2 w);obtain⟨g,hg,_⟩:=h.cAt hn;have HG:=ig hg;have N6:=h.n6;obtain⟨nC,hnC⟩:∃n,D.C.length=n:=⟨_,rfl⟩;obtain⟨nP,hnP⟩:∃n,D.P.length=n:=⟨_,rfl⟩;simp only[hnC,hnP] at CI CP SS N6 hn TOTB;have HNC:=ig hnC;have HNP:=ig hnP;have HPC:Hid (nP=nC):=by show _=_;rw[<-hnC,<-hnP];exact h.nP
 clear h hh hnC hnP hg hcs;go_enter Tryz.func43,Tryz.ntmps43;go_upto_region 1 with fail
 refine wrd SS DR.o λhHeld=>?_
 refine tkd 0 1 2 3 ?_;refine tkd 5 6 7 8 ?_;refine tw 4 λK hK=>?_
 go_simp;refine(CI.o _ DR.o).mono ?_;rintro _ w1 ⟨a1,k1,rfl,hO1⟩;have O1:=ig hO1;have B1:=ig (bt DR.o hO1.b);clear hO1;go_wp2_with fail
 refine hK.o _ _ (SS.o _ B1.o) (λhHeld=>?_)
 clear hK K;refine tw 9 λK hK=>?_
 go_simp;refine(CP.o _ B1.o).mono ?_;rintro _ w2 ⟨a2,k2,rfl,hG2,hN2,hb2⟩;have G2:=ig hG2;have N2:=ig (hN2.mono B1.o.size);have O2:=ig (O1.o.keep hb2);have B2:=ig (bt B1.o hb2);clear hG2 hN2 hb2;go_wp2_with fail
 refine hK.o _ _ (SS.o _ B2.o) (λhHeld=>?_)
 clear hK K;refine tkb 10 11 ?_;refine td ?_
 have START:Hid (Dl w rb D col a1 k1 a2 k2 (w2.alloc (.cells #[.int .i64 z] 3)) D [z] (some ⟨w2.heap.size,0,none⟩) 1):=by
  have ha:=al w2 (.cells #[.int .i64 z] 3);refine⟨HQ.o.keep (bt B2.o ha),Vf.keep (bt B2.o ha),rfl,rfl,?_,?_,O2.o.r.keep ha,O2.o.n.mono DR.o.size,?_,?_,N2.o⟩
  . exact Q.Ig.mk (aH _ _) (ai _) (by unfold maxLen;decide) rfl rfl
  . intro y hy;cases hy;exact .inr B2.o.size
  . intro x y hx hy e;cases hy;have h1:=O2.o.r.lt hx;dsimp only at e;omega
  . rw[HNP.o];exact G2.o.keep ha
 clear CI CP SS G2 N2 O2 O1 B1;go_wp2_with fail
 go_loopw [7,8,9,10] (λv7 _ _ _ wx=>∃(D':Rd)(L:List Int)(a:Option Addr)(c:Nat),v7=.slice a L.length c/\Dl w rb D col a1 k1 a2 k2 wx D' L a c/\Rd.dropS (D'.tot+1) D' L=Rd.dropS (D.tot+1) D [z]/\L.length+8*D'.tot<=1+8*D.tot) (λ_ _ _ _ wx=>mC g nC wx)
 case atStart=>exact⟨D,[z],some ⟨w2.heap.size,0,none⟩,1,rfl,START.o,rfl,by simp⟩
 case round=>
  clear START;obtain⟨D',L,a,c,rfl,hD,hS,hB⟩:=hrel;have HD:=ig hD;have HS:=ig hS;have HB:=ig hB;clear hD hS hB;cases L with
  |nil=>
   have RES:Hid (Rd.dropS (D.tot+1) D [z]=some D'):=by
    show _=_;rw[<-HS.o];rfl
   obtain⟨R3,F3,SV⟩:Hid (Ra wr rb D' H (d7 col0 w col a1 a2))/\Hid (Vf w col0 wr (d7 col0 w col a1 a2))/\Hid (Sv wr (d7 col0 w col a1 a2) D'.C.length ⟨a1,k1,D.C,a2,k2,D.P⟩):=HD.o.seven HRA.o HCO.o;have DD:=ig (m6 wr rb D' H _ R3.o (by rw[HD.o.e];exact HH.o) ⟨a1,k1,D.C,a2,k2,D.P⟩ SV.o HHL.o)
   dsimp only at DD;rw[HNC.o,HNP.o] at DD;have AL:Hid (D'.R=D.R):=by show _=_;rw[HD.o.e]
   simp only[bh];generalize d7 col0 w col a1 a2=c3 at *;go_wp2_with fail
   refine DD.o.mono ?_;rintro _ w4 ⟨a',c',col4,rfl,hR4,hF4⟩;have R4:=ig hR4;have F5:=ig (F3.o.trans hF4);clear hR4 hF4;go_wp2_with fail
   go_ret;exact⟨_,_,_,R4.o,F5.o,.inl ⟨rfl,D',RES.o,⟨rfl,rfl,rfl,rfl,rfl,rfl⟩,_,rfl,rfl,rfl⟩⟩
  |cons x L=>
   obtain⟨ga,ea⟩:∃ga,a=some ⟨ga,0,none⟩:=by
    rcases HD.o.t.cases with⟨_,_,h0⟩|⟨ga,_,e,_⟩
    . exact absurd h0 (by simp)
    . exact⟨ga,e⟩
   subst ea
   have hcap:L.length+1<=c:=by
    rcases HD.o.t.cases with⟨h0,_⟩|⟨_,_,_,_,h1,_⟩
    . cases h0
    . rw[List.length_reverse] at h1;exact h1
   have hxc:wr.cell? ⟨ga,L.length,none⟩=some (.int .i64 x):=by
    have hc:=HD.o.t.cell (i:=L.length) (by simp)
    rw[hc,List.reverse_cons];simp
   have LB:Hid (L.length<=17592186044000):=by
    have h1:=HB.o;have h2:D.tot<=nC*65536:=TOTB.o;have h3:nC*65536<=65536*65536:=dB _ N6;show _<=_;simp only[bg] at h1;omega
   have ME:=ig (xa HD.o.q (g:=g) (by rw[HD.o.e];exact HG.o))
   rw[show D'.C.length=nC from HD.o.n.trans HNC.o] at ME
   have TH:=ig (jS wr rb D' col HD.o.q x);have POP:=ig HD.o.pop;have lc:((x::L).length:Int)=(L.length:Int)+1:=by simp
   have ls:(L.length:Int)+1-1=(L.length:Int):=by omega
   have lb:=LB.o;by_cases h0:0<D'.count x
   . rw[ay h0] at TH
     have SD:Hid (Rd.dropS D'.tot (D'.put x (D'.count x-1)) (if D'.count x-1=0 then (D'.on x).pg.kids++L else L)=Rd.dropS (D.tot+1) D [z]):=by
      show _=_;rw[<-HS.o];show _=if 0<D'.count x then _ else _
      rw[if_pos h0]
     have PT:=ig (Rd.put_tot h0);obtain⟨x1,x2,x3⟩:=Rd.count_at h0;obtain⟨i,hi⟩:∃i:Nat,x=(i:Int)+1:=⟨(x-1).toNat,by omega⟩
     subst hi;have ei:((i:Int)+1-1).toNat=i:=by omega
     have hin:i<D'.C.length:=by omega
     have hinC:i<nC:=by rw[<-HNC.o,<-HD.o.n];exact hin
     have hii:(i:Int)<(nC:Int):=by omega
     have hs1:(i:Int)+1-1=(i:Int):=by omega
     have eaC:D'.aC=some ⟨g,0,none⟩:=by rw[HD.o.e];exact HG.o
     have ecC:D'.cC=D.cC:=by rw[HD.o.e]
     have nD':D'.C.length=nC:=HD.o.n.trans HNC.o;obtain⟨g',eg',cA⟩:=HD.o.q.cAt hin;rw[eaC] at eg';cases eg';have c1:=HD.o.q.cells.2.1;rw[eaC,ecC,nD'] at c1;rw[ei] at x3;rw[<-x3] at cA
     have fA:wr.frozen? ⟨g,i,none⟩=false:=by
      have k:=HD.o.q.cr;rw[eaC] at k;exact Q.Gw.free k i
     have DS:Hid (Dl w rb D col a1 k1 a2 k2 (wr.setCell ⟨g,i,none⟩ (.int .i64 (D'.count ((i:Int)+1)-1))) (D'.put ((i:Int)+1) (D'.count ((i:Int)+1)-1)) L (some ⟨ga,0,none⟩) c):=by
      have k:=POP.o.set HLT.o eaC i (D'.count ((i:Int)+1)-1);unfold Rd.put;rw[ei];exact k
     have ONE:Hid ((D'.put ((i:Int)+1) (D'.count ((i:Int)+1)-1)).P=D'.P):=rfl
     have CB:D'.count ((i:Int)+1)<=4294967296:=by
      have h1:=PT.o;have h2:=HB.o;have h3:D.tot<=nC*65536:=TOTB.o;have h4:nC*65536<=65536*65536:=dB _ N6;have h5:=Fj hin;rw[<-x3] at h5;simp only[bg] at h2;omega
     have NXT:Hid ((D'.put ((i:Int)+1) (D'.count ((i:Int)+1)-1)).C.getD i 0=D'.count ((i:Int)+1)-1):=by
      show(D'.C.set _ _).getD i 0=_;rw[ei,jP,if_pos ⟨rfl,hin⟩]
     clear HD HS POP x1 x2 x3 ecC hin;generalize D'.count ((i:Int)+1)=cnt at *;obtain⟨D1,hD1⟩:∃D1,D'.put ((i:Int)+1) (cnt-1)=D1:=⟨_,rfl⟩;obtain⟨pp,hpp⟩:∃pp,D'.on ((i:Int)+1)=pp:=⟨_,rfl⟩;rw[hpp] at SD
     have HPP:Hid (D1.P.getD i Pv.zero=pp):=by
      show _=_;rw[<-hD1,ONE.o,<-hpp];unfold Rd.on;rw[ei]
     rw[hD1] at SD PT DS NXT;clear hD1 hpp ONE;go_wp2_with fail
     refine TH.o.mono ?_;rintro _ wq ⟨rfl,hwq⟩;rw[hwq];clear hwq TH;go_upto_region 10 with fail
     generalize wr.setCell ⟨g,i,none⟩ (.int .i64 (cnt-1))=ws at *;have nD1:D1.C.length=nC:=DS.o.n.trans HNC.o;have eaC1:D1.aC=some ⟨g,0,none⟩:=by rw[DS.o.e];exact HG.o
     have hin1:i<D1.C.length:=by rw[nD1];exact hinC
     obtain⟨g',eg',cB⟩:=DS.o.q.cAt hin1;rw[eaC1] at eg';cases eg';rw[NXT.o] at cB;have ecC1:D1.cC=D.cC:=by rw[DS.o.e]
     have c1':=DS.o.q.cells.2.1;rw[eaC1,ecC1,nD1] at c1';clear cA fA c1 hxc;by_cases hz:cnt-1=0
     . rw[if_pos hz] at SD;have nP1:D1.P.length=nC:=DS.o.q.nP.trans nD1;obtain⟨gP,egP,cP⟩:=DS.o.q.pAt hin1;rw[HPP.o] at cP;have c3':=DS.o.q.cells.2.2.2.1;rw[egP,nP1] at c3';have z0:=cP 0 _ (by decide) rfl
       have z1:=cP 1 _ (by decide) rfl
       have z2:=cP 2 _ (by decide) rfl
       have z3:=cP 3 _ (by decide) rfl
       have z4:=cP 4 _ (by decide) rfl
       rw[cE] at z0
       have PMEM:Hid (pp∈D1.P):=by
        show _∈_;rw[<-HPP.o];have h:i<D1.P.length:=by rw[nP1];exact hinC
        simp[h]
       have KD:=ig (rL ws pp (DS.o.q.pz pp PMEM.o).pi);have KL:=ig (ru (DS.o.q.ps pp PMEM.o));unfold Pv.vl at KD;simp only[Pv.cs] at KD;generalize pp.pg.kids=ks at *;obtain⟨K,hK⟩:∃K,ks.length=K:=⟨_,rfl⟩;rw[hK] at KD KL;have HKL:=ig hK;have kl:=KL.o;clear hK cP HPP egP nP1;rw[hz] at cB;go_wp2_with fail
       refine KD.o.mono ?_;rintro _ w5 ⟨al5,cl5,rfl,hI⟩;have D5:=ig (DS.o.keep hI.b);have I5:Hid (Q.Ig w5 al5 cl5 ks):=hI.r
       have N5:Hid (∀y q,al5=some y->(some ⟨ga,0,none⟩:Option Addr)=some q->y.block≠q.block):=λy q hy hq e=>by
        have h1:=iG hI.n hy;have h2:=DS.o.t.lt hq;omega
       clear hI KD z0 z1 z2 z3 z4 c3' c1' cB DS PMEM;go_wp2_with fail
       go_loopw [7,10] (λv7 v10 wx=>∃(m:Nat)(a':Option Addr)(c':Nat),m<=K/\v10=.int .i64 ((K:Int)-1-(m:Int))/\v7=.slice a' (L.length+m) c'/\Dl w rb D col a1 k1 a2 k2 wx D1 (ks.drop (K-m)++L) a' c'/\Q.Ig wx al5 cl5 ks/\∀y q,al5=some y->a'=some q->y.block≠q.block) (λ_ v10 _=>(intOf v10+1).toNat)
       case atStart=>exact⟨0,some ⟨ga,0,none⟩,c,aF _,by simp,rfl,by rw[Nat.sub_zero,List.drop_of_length_le (by rw[HKL.o];omega)];exact D5.o,I5.o,N5.o⟩
       case round=>
        clear D5 I5 N5;obtain⟨m,a',c',hm,rfl,rfl,hDl,hIg,hNe⟩:=hrel;have DD:=ig hDl;have II:=ig hIg;have NN:=ig hNe;clear hDl hIg hNe;by_cases hlm:m<K
        . have hge:(0:Int)<=(K:Int)-1-(m:Int):=by omega
          obtain⟨j,hj⟩:∃j:Nat,K=j+1+m:=⟨K-1-m,by omega⟩
          have ej:(K:Int)-1-(m:Int)=(j:Int):=by omega
          have hjk:j<K:=by omega
          have hji:(j:Int)<(K:Int):=by omega
          obtain⟨gk,ek⟩:∃gk,al5=some ⟨gk,0,none⟩:=by
           rcases II.o.cases with⟨_,_,h0⟩|⟨gk,_,e,_⟩
           . have h1:=HKL.o;rw[h0] at h1;simp at h1;omega
           . exact⟨gk,e⟩
          subst ek;have hck:=II.o.cell (i:=j) (by rw[HKL.o];exact hjk)
          have DRP:Hid (ks.drop (K-(m+1))++L=ks.getD j 0::(ks.drop (K-m)++L)):=by
           have h1:j<ks.length:=by rw[HKL.o];exact hjk
           show _=_;have e9:ks.getD j 0=ks[j]:=by simp[h1]
           rw[show K-(m+1)=j by omega,show K-m=j+1 by omega,e9,cM h1]
           rfl
          have lr:Hid (L.length+m=(ks.drop (K-m)++L).reverse.length):=by
           have h1:=HKL.o;show _=_;rw[List.length_reverse,ae,di];omega
          have TT:=ig DD.o.t;obtain⟨st,hst⟩:∃st,ks.drop (K-m)++L=st:=⟨_,rfl⟩;rw[hst] at TT DD DRP lr;obtain⟨sr,hsr⟩:∃sr,st.reverse=sr:=⟨_,rfl⟩;rw[hsr] at TT lr;have HSR:=ig hsr;have hlr:sr.length+1<=17592186044416:=by have:=lr.o;omega
          generalize ks.getD j 0=kx at *;rw[ej];clear hst hsr hj;go_wp2_with (first|(at_builtin;refine Q.ji rfl _ _ rfl a' (L.length+m) c' sr ?q1 lr.o (TT.o.keep (al _ _)) ⟨wr.heap.size,0,none⟩ 1 kx ?q2 ?q3 hlr ?_)|fail)
          try case q1=>rfl
          try case q2=>rfl
          try case q3=>simp
          intro g6 c6 w6 hR6 hN6 hg6 hl6;rw[<-HSR.o] at hR6;have D6:=ig (DD.o.push HLT.o hR6 hN6 hg6);have I6:Hid (Q.Ig w6 (some ⟨gk,0,none⟩) cl5 ks/\∀y q,(some ⟨gk,0,none⟩:Option Addr)=some y->(some ⟨g6,0,none⟩:Option Addr)=some q->y.block≠q.block):=Dv II.o NN.o hN6 hg6;clear hR6 hN6 hg6 hl6 hck;go_wp2_with fail
          go_roundw
          case rel=>exact⟨m+1,_,c6,by omega,by go_num,by rw[eU],by rw[DRP.o];exact D6.o,I6.o.1,I6.o.2⟩
          case measure=>simp[intOf]
        . obtain rfl:m=K:=by omega
          have hge:¬(0:Int)<=(m:Int)-1-(m:Int):=by omega
          have D7:Hid (Dl w rb D col a1 k1 a2 k2 wr D1 (ks++L) a' c'):=by
           have h1:=DD.o;rw[dv,fD] at h1;exact h1
          have M7:=ig (xa D7.o.q (g:=g) eaC1);rw[nD1] at M7;go_wp2_with fail
          go_roundw
          case rel=>
           refine⟨D1,ks++L,a',c',by rw[ae,HKL.o,Nat.add_comm],D7.o,by rw[PT.o];exact SD.o,?_⟩
           have h1:=HB.o;have h2:=PT.o;rw[ae,HKL.o];simp only[bg] at h1;omega
          case measure=>
           have h1:=ME.o;have h2:=M7.o;have h3:=PT.o;omega
     . rw[if_neg hz] at SD;have hzb:(cnt-1==0)=false:=by simp[hz]
       have M8:=ig (xa DS.o.q (g:=g) eaC1);rw[nD1] at M8;clear hz;go_wp2_with fail
       go_roundw
       case rel=>
        refine⟨D1,L,some ⟨ga,0,none⟩,c,rfl,DS.o,by rw[PT.o];exact SD.o,?_⟩
        have h1:=HB.o;have h2:=PT.o;simp only[bg] at h1;omega
       case measure=>
        have h1:=ME.o;have h2:=M8.o;have h3:=PT.o;omega
   . rw[ax h0] at TH
     have RES:Hid (Rd.dropS (D.tot+1) D [z]=none):=by
      show _=_;rw[<-HS.o];show(if 0<D'.count x then _ else _)=_
      rw[if_neg h0]
     have NT:=ig (qe wr rb D' col HD.o.q a1 a2 nC k1 nP k2);obtain⟨R3,F3,SV⟩:Hid (Ra wr rb D' H (d7 col0 w col a1 a2))/\Hid (Vf w col0 wr (d7 col0 w col a1 a2))/\Hid (Sv wr (d7 col0 w col a1 a2) D'.C.length ⟨a1,k1,D.C,a2,k2,D.P⟩):=HD.o.seven HRA.o HCO.o;have UN:=ig (HRA.o.undone R3.o F3.o ⟨a1,k1,D.C,a2,k2,D.P⟩ SV.o HD.o.cn HD.o.pn);dsimp only at UN;rw[HNC.o,HNP.o] at UN;have EE:=ig HD.o.e;clear R3 F3 SV;clear POP;go_wp2_with fail
     refine TH.o.mono ?_;rintro _ wq ⟨rfl,hwq⟩;rw[hwq];clear hwq TH;go_wp2_with fail
     refine NT.o.mono ?_;rintro _ wq ⟨rfl,hwq⟩;rw[hwq];clear hwq NT;go_wp2_with fail
     go_ret;exact⟨_,_,_,UN.o.1,UN.o.2,.inr ⟨rfl,RES.o,⟨by rw[EE.o];rfl,rfl,by rw[EE.o];rfl,rfl,by rw[EE.o];rfl,by rw[EE.o];rfl⟩,rfl⟩⟩
theorem rA:(Tryz.prog.info? 39).map (λi=>(i.zero,i.size,i.bytes))=some (some (.agg #[.int .i64 0,.int .i64 0,.int .i64 0,.slice none 0 0,.slice none 0 0,.int .i64 0]),6,80):=by kernel_rfl
theorem vE:(Tryz.prog.info? 39).map (·.size)=some 6:=by kernel_rfl
def nms(L:List (Int×Pv)):List Value:=(L.map nmc).flatten
theorem qh(A B:List (Int×Pv)):nms (A++B)=nms A++nms B:=by simp[nms]
theorem vL(x:Int×Pv):nms [x]=nmc x:=by simp[nms]
structure Nn(w wx:World)(a:Option Addr)(c:Nat)(L:List (Int×Pv)):Prop where
 r:Q.Gw 39 6 wx a c L.length (nms L)
 n:New w none a
 p:∀x∈L,Pn w wx x.2/\x.2.items.length<=1048576
 b:Below w.heap.size w wx
theorem Nn.keep{L:List (Int×Pv)}(h:Nn w wx a c L)(hb:Below wx.heap.size wx wy):Nn w wy a c L:=⟨h.r.keep hb,h.n,λx hx=>⟨(h.p x hx).1.keep hb,(h.p x hx).2⟩,bt h.b hb⟩
theorem Nn.push{c':Nat}{L:List (Int×Pv)}{x:Int×Pv}(h:Nn w wx a c L)(hx:Pn w wx x.2/\x.2.items.length<=1048576)(hG:Q.Gw 39 6 wy (some ⟨g,0,none⟩) c' (L.length+1) (nms L++nmc x))(hN:New wx a (some ⟨g,0,none⟩))(hB:But (Q.InA a) wx wy):Nn w wy (some ⟨g,0,none⟩) c' (L++[x]):=by
 have hS:∀k,Q.InA a k->∃t cs,Bx wx t k cs/\t≠5/\t≠51:=λk ⟨y,hy,e⟩=>by
  obtain⟨cur,hc⟩:=h.r.blk hy;exact⟨39,cur,by rw[<-e];exact hc,by decide,by decide⟩
 refine⟨?_,h.n.trans hN h.b.size,λy hy=>?_,?_⟩
 . rw[ae,qh,vL];exact hG
 . rcases bm.1 hy with hy|hy
   . exact⟨(h.p y hy).1.but hB hS,(h.p y hy).2⟩
   . rw[aQ.1 hy];exact⟨hx.1.but hB hS,hx.2⟩
 . exact((But.ofBelow (S:=Q.InA a) h.b).trans hB (λ_ _ e=>e)).below (λk hk ⟨y,hy,e⟩=>by have:=iG h.n hy;omega)
def Rd.pgAt(D:Rd)(s:Int)(k:Nat):Pg:=if s=1 then Pv.zero.pg else (D.P.getD k Pv.zero).pg
def Rd.listed(D:Rd)(s:Int)(i:Nat):List (Int×Pg):=((List.range i).filter λ(k:Nat)=>decide (((D.state ((k:Int)+1):Nat):Int)=s)).map λ(k:Nat)=>((k:Int)+1,D.pgAt s k)
theorem Rd.listed_yes(h:((D.state ((i:Int)+1):Nat):Int)=s):D.listed s (i+1)=D.listed s i++[((i:Int)+1,D.pgAt s i)]:=by
 unfold Rd.listed;rw[fM,fN,bL];simp[h]
theorem Rd.listed_no(h:((D.state ((i:Int)+1):Nat):Int)≠s):D.listed s (i+1)=D.listed s i:=by
 unfold Rd.listed;rw[fM,fN,bL];simp[h]
theorem qp(A B:List (Int×Pv)):nmg (A++B)=nmg A++nmg B:=by simp[nmg]
theorem oY{v0 v1 v2 v3 v4 v5:Value}(h:W.heap[g]?=some (.cells #[v0,v1,v2,v3,v4,v5] t (0,0))):W.cell? ⟨g,0,none⟩=some v0/\W.cell? ⟨g,1,none⟩=some v1/\W.cell? ⟨g,2,none⟩=some v2/\W.cell? ⟨g,3,none⟩=some v3/\W.cell? ⟨g,4,none⟩=some v4/\W.cell? ⟨g,5,none⟩=some v5:=by
 refine⟨?_,?_,?_,?_,?_,?_⟩<;>(rw[au _ _ _ _ _ _ h];rfl)
theorem rm{x:Int×Pv}(h:W.heap[g]?=some (.cells #[.int .i64 x.1,.int .i64 x.2.kind,.int .i64 x.2.level,.slice x.2.aI x.2.items.length x.2.cI,.slice x.2.aD x.2.data.length x.2.cD,.int .i64 x.2.next] t (0,0))):∀j u,(nmc x)[j]?=some u->W.cell? ((⟨g,0,none⟩:Addr).add j)=some u:=by
 intro j u hu;rw[Addr.add_mid,bH,au _ _ _ _ _ _ h,<-hu];simp[nmc,Pv.cs]
theorem qX{x:Int×Pv}:∀u∈nmc x,u.oneCell'=true:=by
 intro u hu;simp only[nmc,Pv.cs,bT,bB,gd] at hu;rcases hu with rfl|rfl|rfl|rfl|rfl|rfl<;>rfl
theorem qJ(w:World)(rb:Nat)(D:Rd)(col:Nat->Nat)(h:Rq w rb D col)(s:Int):
 Calls Tryz.prog 53 #[.pointer (some ⟨rb,0,none⟩),.int .i64 s] w λe w'=>∃(a:Option Addr)(c:Nat)(L:List (Int×Pv)),e=.returned (.slice a L.length c)/\Nn w w' a c L/\nmg L=D.listed s D.C.length:=by
 have HQ:=ig h;have h6:=h.n6;obtain⟨n,hn⟩:∃n,D.C.length=n:=⟨_,rfl⟩;have HN:=ig hn;have NP:Hid (D.P.length=n):=h.nP.trans hn;rw[hn] at h6 ⊢;clear h hn;go_enter Tryz.func53,Tryz.ntmps53;go_wp2_with fail
 go_loopw [5,6,7] (λv5 v6 _ wx=>∃(i:Nat)(a:Option Addr)(c:Nat)(L:List (Int×Pv)),i<=n/\v6=.int .i64 ((i:Int)+1)/\v5=.slice a L.length c/\Nn w wx a c L/\nmg L=D.listed s i/\L.length<=i) (λ_ v6 _ _=>n+1-(intOf v6).toNat)
 case atStart=>exact⟨0,none,0,[],aF _,rfl,rfl,⟨Q.Gw.nil _ _ _,New.none _ _,λx hx=>(by cases hx),Below.refl _ _⟩,rfl,ai _⟩
 case round=>
  obtain⟨i,a,c,L,hi,rfl,rfl,hNn,hL,hle⟩:=hrel;have NN:=ig hNn;have HL:=ig hL;have LE:=ig hle;have QQ:=ig (HQ.o.keep hNn.b);have y1:=QQ.o.cells.2.1;rw[HN.o] at y1;clear hNn hL hle;by_cases hlt:i<n
  . have hii:(i:Int)+1<=(n:Int):=by omega
    have hiC:i<D.C.length:=by rw[HN.o];exact hlt
    have ST:=ig (kC wr rb D col QQ.o ((i:Int)+1));by_cases hs:((D.state ((i:Int)+1):Nat):Int)=s
    . have LY:=ig (Rd.listed_yes hs);rw[hs] at ST;have e1:(s==s)=true:=by simp
      have hml:L.length+1<=maxLen:=by have:=LE.o;unfold maxLen;omega
      have lml:L.length<=65536:=by have:=LE.o;omega
      have A1:=ig (al wr (.cells #[.int .i64 0,.int .i64 0,.int .i64 0,.slice none 0 0,.slice none 0 0,.int .i64 0] 39));have X1:=ig (aH wr (.cells #[.int .i64 0,.int .i64 0,.int .i64 0,.slice none 0 0,.slice none 0 0,.int .i64 0] 39));have X2:Hid (((wr.alloc (.cells #[.int .i64 0,.int .i64 0,.int .i64 0,.slice none 0 0,.slice none 0 0,.int .i64 0] 39)).setRow wr.heap.size #[.int .i64 ((i:Int)+1),.int .i64 0,.int .i64 0,.slice none 0 0,.slice none 0 0,.int .i64 0]).heap[wr.heap.size]?=some (.cells #[.int .i64 ((i:Int)+1),.int .i64 0,.int .i64 0,.slice none 0 0,.slice none 0 0,.int .i64 0] 39 (0,0))):=cY _ _ _ _ _ _ X1.o;have B2:Hid (Below wr.heap.size wr ((wr.alloc (.cells #[.int .i64 0,.int .i64 0,.int .i64 0,.slice none 0 0,.slice none 0 0,.int .i64 0] 39)).setRow wr.heap.size #[.int .i64 ((i:Int)+1),.int .i64 0,.int .i64 0,.slice none 0 0,.slice none 0 0,.int .i64 0])):=((But.ofBelow (S:=λk=>k=wr.heap.size) A1.o).trans (Q.iK _ _ _) (λ_ _ e=>e)).below (λk hk e=>by omega)
      clear hs;by_cases h1:s=1
      . subst h1;go_wp2_with fail
        refine ST.o.mono ?_;rintro _ wq ⟨rfl,hwq⟩;rw[hwq];clear hwq ST;go_upto_region 7 with(first|(refine cu rfl 39 _ _ rfl wr.heap.size _ rfl rfl 39 _ X1.o vE rfl (by simp[Value.oneCell']) ?_)|fail)
        generalize (wr.alloc (.cells #[.int .i64 0,.int .i64 0,.int .i64 0,.slice none 0 0,.slice none 0 0,.int .i64 0] 39)).setRow wr.heap.size #[.int .i64 ((i:Int)+1),.int .i64 0,.int .i64 0,.slice none 0 0,.slice none 0 0,.int .i64 0]=w2 at *;obtain⟨x0,x1,x2,x3,x4,x5⟩:=oY X2.o;have A3:=ig (al w2 (.cells #[.int .i64 ((i:Int)+1),.int .i64 0,.int .i64 0,.slice none 0 0,.slice none 0 0,.int .i64 0] 39));have X3:=ig (aH w2 (.cells #[.int .i64 ((i:Int)+1),.int .i64 0,.int .i64 0,.slice none 0 0,.slice none 0 0,.int .i64 0] 39));have N3:=ig ((NN.o.keep B2.o).keep A3.o);clear A1 X1 y1;go_wp2_with (at_builtin;refine jv Tryz.underlying36 rA rfl (by decide) rfl _ _ rfl a L.length c (nms L) rfl N3.o.r ⟨w2.heap.size,0,none⟩ 1 (nmc ((i:Int)+1,Pv.zero)) rfl rfl (rm (x:=((i:Int)+1,Pv.zero)) X3.o) qX hml (by omega) ?_)
        intro g5 c5 w5 hG hN hB;have N5:=ig (N3.o.push (x:=((i:Int)+1,Pv.zero)) ⟨Pn.zero _ _,aF _⟩ hG hN hB);clear hG hN hB N3 A3 X3 x0 x1 x2 x3 x4 x5;go_wp2_with fail
        go_roundw
        case rel=>exact⟨i+1,some ⟨g5,0,none⟩,c5,L++[((i:Int)+1,Pv.zero)],by omega,by go_num,by rw[ae];rfl,N5.o,by rw[qp,HL.o,LY.o];simp[nmg,Rd.pgAt],by rw[ae];have:=LE.o;simp;omega⟩
        case measure=>simp[intOf];omega
      . have e2:(s==1)=false:=by simpa using h1
        have e3:(s != 1)=true:=by simpa using h1
        have PG:Hid (D.pgAt s i=(D.P.getD i Pv.zero).pg):=by show _=_;unfold Rd.pgAt;rw[if_neg h1]
        clear h1;go_wp2_with fail
        refine ST.o.mono ?_;rintro _ wq ⟨rfl,hwq⟩;rw[hwq];clear hwq ST;go_upto_region 7 with(first|(refine cu rfl 39 _ _ rfl wr.heap.size _ rfl rfl 39 _ X1.o vE rfl (by simp[Value.oneCell']) ?_)|fail)
        generalize (wr.alloc (.cells #[.int .i64 0,.int .i64 0,.int .i64 0,.slice none 0 0,.slice none 0 0,.int .i64 0] 39)).setRow wr.heap.size #[.int .i64 ((i:Int)+1),.int .i64 0,.int .i64 0,.slice none 0 0,.slice none 0 0,.int .i64 0]=w2 at *;have Q2:=ig (QQ.o.keep B2.o);obtain⟨gP,egP,hcp⟩:=Q2.o.pAt hiC;have z3:=Q2.o.cells.2.2.2.1;rw[egP,NP.o] at z3;have hin:(i:Int)<(n:Int):=by omega
        have si0:(i:Int)+1-1=(i:Int):=by omega
        have WI:Hid (IntKind.i64.wrap ((i:Nat):Int)=(i:Int)):=iw (by omega) (by omega)
        have HM:Hid (D.P.getD i Pv.zero∈D.P):=by
         show _∈_;have:i<D.P.length:=by rw[NP.o];exact hlt
         simp[this]
        obtain⟨pp,hpp⟩:∃pp,D.P.getD i Pv.zero=pp:=⟨_,rfl⟩;rw[hpp] at hcp HM PG;obtain⟨sm,sl⟩:=jY (Q2.o.ps pp HM.o);have SL:=ig sl;have CO:=ig (jZ w2 pp (Q2.o.pz pp HM.o).pi sm.1 sl sm.2);have u0:=hcp 0 _ (by decide) rfl
        have u1:=hcp 1 _ (by decide) rfl
        have u2:=hcp 2 _ (by decide) rfl
        have u3:=hcp 3 _ (by decide) rfl
        have u4:=hcp 4 _ (by decide) rfl
        rw[cE] at u0;unfold Pv.vl at CO;simp only[Pv.cs] at CO;clear hcp hpp A1 X1 y1 sm sl;go_wp2_with fail
        refine CO.o.mono ?_;rintro _ w3 ⟨r,rfl,hP3,hl3,hg3,hb3⟩;have X3:=ig (im X2.o hb3);have N3:=ig ((NN.o.keep B2.o).keep hb3);have PN:=ig (hP3.pre (v':=w) (aO NN.o.b.size B2.o.size));have L3:Hid (r.items.length<=1048576):=by show _<=_;rw[hl3];exact SL.o
        have G3:=ig hg3
        have TH:Hid (w3.there wr.heap.size 1 5):=λk hk=>by
         obtain⟨x0,x1,x2,x3,x4,x5⟩:=oY X3.o;match k,hk with
         |0,_=>exact⟨by rw[x1];rfl,bq _ _ _ _ _ X3.o⟩
         |1,_=>exact⟨by rw[x2];rfl,bq _ _ _ _ _ X3.o⟩
         |2,_=>exact⟨by rw[x3];rfl,bq _ _ _ _ _ X3.o⟩
         |3,_=>exact⟨by rw[x4];rfl,bq _ _ _ _ _ X3.o⟩
         |4,_=>exact⟨by rw[x5];rfl,bq _ _ _ _ _ X3.o⟩
        have BW:Hid (wr.heap.size<w3.heap.size):=(af.1 X3.o).1;have B3:=ig (bt B2.o hb3);have RC:Hid (r.cs=#[.int .i64 r.kind,.int .i64 r.level,.slice r.aI r.items.length r.cI,.slice r.aD r.data.length r.cD,.int .i64 r.next]):=rfl;clear hP3 hl3 hg3 hb3 CO u0 u1 u2 u3 u4 z3;go_upto_region 9 with(first|(refine wpList_store_mid (P:=Tryz.prog) rfl 31 _ _ rfl wr.heap.size 1 #[.int .i64 r.kind,.int .i64 r.level,.slice r.aI r.items.length r.cI,.slice r.aD r.data.length r.cD,.int .i64 r.next] ?hx1 ?hy1 TH.o iq ?ho1 ?_)|fail)
        try case hx1=>rfl
        try case hy1=>rfl
        try case ho1=>simp[Value.oneCell']
        have IN:=ig (World.cell?_setCells_in wr.heap.size #[.int .i64 r.kind,.int .i64 r.level,.slice r.aI r.items.length r.cI,.slice r.aD r.data.length r.cD,.int .i64 r.next].toList 1 w3 (λj hj=>(TH.o j hj).1))
        have OUT:=ig (World.cell?_setCells_out wr.heap.size #[.int .i64 r.kind,.int .i64 r.level,.slice r.aI r.items.length r.cI,.slice r.aD r.data.length r.cD,.int .i64 r.next].toList 1 w3 ⟨wr.heap.size,0,none⟩ (λ_ _=>.inl (fE 0)))
        have BS:=ig (i8 wr.heap.size #[.int .i64 r.kind,.int .i64 r.level,.slice r.aI r.items.length r.cI,.slice r.aD r.data.length r.cD,.int .i64 r.next].toList w3 1);have B4:=ig (((But.ofBelow (S:=λk=>k=wr.heap.size) B3.o).trans BS.o (λ_ _ e=>e)).below (λk hk e=>by omega))
        have P4:=ig (PN.o.but BS.o (λk e=>by subst e;exact⟨39,_,X3.o,by decide,by decide⟩))
        have q0:=(oY X3.o).1;rw[<-OUT.o] at q0;have q1:=IN.o 0 (show 0<5 by decide)
        have q2:=IN.o 1 (show 1<5 by decide)
        have q3:=IN.o 2 (show 2<5 by decide)
        have q4:=IN.o 3 (show 3<5 by decide)
        have q5:=IN.o 4 (show 4<5 by decide)
        clear IN OUT BS TH X3 PN N3 B3;generalize w3.setCells wr.heap.size 1 #[.int .i64 r.kind,.int .i64 r.level,.slice r.aI r.items.length r.cI,.slice r.aD r.data.length r.cD,.int .i64 r.next].toList=w4 at *;have q1:w4.cell? ⟨wr.heap.size,1,none⟩=some (.int .i64 r.kind):=q1;have q2:w4.cell? ⟨wr.heap.size,2,none⟩=some (.int .i64 r.level):=q2;have q3:w4.cell? ⟨wr.heap.size,3,none⟩=some (.slice r.aI r.items.length r.cI):=q3;have q4:w4.cell? ⟨wr.heap.size,4,none⟩=some (.slice r.aD r.data.length r.cD):=q4;have q5:w4.cell? ⟨wr.heap.size,5,none⟩=some (.int .i64 r.next):=q5;have A5:=ig (al w4 (.cells #[.int .i64 ((i:Int)+1),.int .i64 r.kind,.int .i64 r.level,.slice r.aI r.items.length r.cI,.slice r.aD r.data.length r.cD,.int .i64 r.next] 39));have X5:=ig (aH w4 (.cells #[.int .i64 ((i:Int)+1),.int .i64 r.kind,.int .i64 r.level,.slice r.aI r.items.length r.cI,.slice r.aD r.data.length r.cD,.int .i64 r.next] 39));have N5:=ig ((NN.o.keep B4.o).keep A5.o);have P5:=ig (P4.o.keep A5.o);go_wp2_with (at_builtin;refine jv Tryz.underlying36 rA rfl (by decide) rfl _ _ rfl a L.length c (nms L) rfl N5.o.r ⟨w4.heap.size,0,none⟩ 1 (nmc ((i:Int)+1,r)) rfl rfl (rm (x:=((i:Int)+1,r)) X5.o) qX hml (by omega) ?_)
        intro g5 c5 w5 hG hN hB;have N6:=ig (N5.o.push (x:=((i:Int)+1,r)) ⟨P5.o,L3.o⟩ hG hN hB);clear hG hN hB N5 A5 X5 q0 q1 q2 q3 q4 q5;go_wp2_with fail
        go_roundw
        case rel=>exact⟨i+1,some ⟨g5,0,none⟩,c5,L++[((i:Int)+1,r)],by omega,by go_num,by rw[ae];rfl,N6.o,by rw[qp,HL.o,LY.o,PG.o,<-G3.o];rfl,by rw[ae];have:=LE.o;simp;omega⟩
        case measure=>simp[intOf];omega
    . have LN:=ig (Rd.listed_no hs);obtain⟨st,hst⟩:∃st,D.state ((i:Int)+1)=st:=⟨_,rfl⟩;rw[hst] at ST hs;have e1:(((st:Nat):Int)==s)=false:=by simpa using hs
      clear hs hst;go_wp2_with fail
      refine ST.o.mono ?_;rintro _ wq ⟨rfl,hwq⟩;rw[hwq];clear hwq ST;go_wp2_with fail
      go_roundw
      case rel=>exact⟨i+1,a,c,L,by omega,by go_num,rfl,NN.o,by rw[LN.o];exact HL.o,by have:=LE.o;omega⟩
      case measure=>simp[intOf];omega
  . obtain rfl:i=n:=by omega
    have hii:¬(i:Int)+1<=(i:Int):=by omega
    go_wp2_with fail
    go_ret;exact⟨a,c,L,rfl,NN.o,HL.o⟩
end Go.Proofs.YtbdkogimlbnlmaaGreat
