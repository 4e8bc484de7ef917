import Derived.Test.YtbdkogimlbnlmaaGreatWqB32
set_option linter.unusedVariables false
set_option linter.unusedSimpArgs false
set_option maxHeartbeats 16000000
set_option maxRecDepth 8000
namespace Go.Proofs.YtbdkogimlbnlmaaGreat
open Go.RowKit
section
variable (v w:World) (wb b rb pb mb:Nat) (S:Vs) (D:Rd) (H:List Sn) (pc col colR:Nat->Nat) (aW:Option Addr) (cW:Nat) (W:List Wl) (K:Bkk) (M:Nat)
theorem Ez(h:Wo v w wb b rb pb mb S D H pc col colR aW cW W K M)(hM:M<=100000000000)(o:Oq)(hk:o.kind=14):
 Calls Tryz.prog 10 #[.pointer (some ⟨wb,0,none⟩),o.vl] w λe w'=>Nx v w wb b rb pb mb col colR aW K M e w':=by
 have OV:Hid (o.vl=.agg o.cs):=rfl;rw[OV.o];have A0:=gZ (al w (.cells o.cs 33));have X0:=gZ (aH w (.cells o.cs 33));have Z0:=gZ (h.va.z (ai w.heap.size));have H1:=gZ (h.ws.keep A0.o);have HW:=gZ h;have hM2:M<=1000000000000:=by omega
 clear h;go_enter Tryz.func10,Tryz.ntmps10;obtain⟨c0,c1,c2,c3,c4,c5,c6,c7⟩:=g7 X0.o;rw[hk] at c0;go_upto_region 46 with fail
 generalize w.alloc (.cells o.cs 33)=w1 at *;clear hk;obtain⟨gi,hgi⟩:∃gi,w.heap.size=gi:=⟨_,rfl⟩;simp only[hgi] at X0 Z0 c0 c1 c2 c3 c4 c5 c6 c7 ⊢;clear hgi;have DR:=gZ (dr2 w1);obtain⟨n,hn⟩:∃n,W.length=n:=⟨_,rfl⟩;have HN:=gZ hn;clear hn;have hnM:n<=100000000000:=by have:=HW.o.wl;rw[HN.o] at this;omega
 have hml:n+1<=maxLen:=by unfold maxLen;omega
 have SS:Hid (∀V:World,Below w1.heap.size w1 V->V.cell? ⟨wb,0,none⟩=some (.pointer (some ⟨b,0,none⟩))/\V.cell? ⟨wb,1,none⟩=some (.pointer (some ⟨rb,0,none⟩))/\V.cell? ⟨gi,1,none⟩=some (.int .i64 o.n)):=λV hb=>⟨((H1.o.keep hb).cells).1,((H1.o.keep hb).cells).2.1,(g7 (ig X0.o hb)).2.1⟩
 have WC:Hid (∀V:World,Below w1.heap.size w1 V->V.cell? ⟨wb,2,none⟩=some (.slice aW n cW)):=λV hb=>by rw[<-HN.o];exact((H1.o.keep hb).cells).2.2.1
 clear c0 c1 c2 c3 c4 c5 c6 c7;have PA:=gZ λ(W:World)(hb:Below w1.heap.size w1 W)=>qv W b S pb mb pc col ((H1.o.keep hb).va.V) o.n
 have PD:=gZ λ(W:World)(hb:Below w1.heap.size w1 W)=>qn W rb D colR ((H1.o.keep hb).va.R.q) o.n
 have B0:=gZ DR.o;refine wrd SS DR.o λhHeld=>?_
 refine tkd 0 1 2 3 ?_;refine tkd 5 6 7 8 ?_;refine tkd 9 10 12 13 ?_;refine tkd 14 15 16 17 ?_;refine eu (rs:=[4,11]) (by kernel_rfl) (by simp) ?_
 refine(AllReadyH.cons rfl (λKx hK=>?_) (AllReadyH.cons rfl (λKx hK=>?_) AllReadyH.nil))
 all_goals
  first
  |have wcx:=WC.o _ B0.o
   go_simp;clear wcx;refine hK.o _ _ (SS.o _ B0.o) (λhHeld=>?_)
   refine tw 11 λKx hK=>?_
   go_simp;refine(PA.o _ B0.o).mono ?_;rintro _ w2 ⟨tb,a,c,rfl,hb2,ht2,hx2,hg2,ha2⟩;have B1:=gZ (bt B0.o hb2);have T2:=gZ (pK (H1.o.keep B0.o).va HW.o.tw hb2 ht2 hx2 hg2 ha2);clear hb2 ht2 hx2 hg2 ha2 PA;go_wp2_with fail
   refine hK.o _ _ (SS.o _ B1.o) (λhHeld=>?_)
   refine tw 18 λKx hK=>?_
   go_simp;refine(PD.o _ B1.o).mono ?_;rintro _ w3 ⟨aN,cN,N,rfl,hn3,hl3⟩;have B2:=gZ (bt B1.o hn3.b);have T3:=gZ (T2.o.keep hn3.b);have N3:=gZ (mQ (H1.o.keep B1.o).va hn3);have E3:=gZ (lw HW.o.tw hl3);have D3:Hid (∀p∈K.T,∀x∈N,Bdj p x.2):=λp hp x hx j h1 h2=>by have:=(H1.o.wr.bo.tp p hp).n.blk_lt h1;have:=(hn3.p x hx).1.blk_new h2;have:=B1.o.size;omega
   clear hn3 hl3 PD;go_wp2_with fail
   refine hK.o _ _ (SS.o _ B2.o) (λhHeld=>?_)
   refine tk 19 ?_;refine tw 20 λKx hK=>?_
   go_simp;have A4:=gZ (al w3 (.cells #[.func (.func 116) #[] #[.pointer (some ⟨tb,0,none⟩)],.slice aN N.length cN] 107));have B4:=gZ (bt B2.o A4.o);have X4:=gZ (aH w3 (.cells #[.func (.func 116) #[] #[.pointer (some ⟨tb,0,none⟩)],.slice aN N.length cN] 107));refine hK.o _ _ (SS.o _ B4.o) (λhHeld=>?_)
   try simp only[pt]
   generalize w3.alloc (.cells #[.func (.func 116) #[] #[.pointer (some ⟨tb,0,none⟩)],.slice aN N.length cN] 107)=w4 at*
  |go_simp
   refine(PA.o _ B0.o).mono ?_;rintro _ w2 ⟨tb,a,c,rfl,hb2,ht2,hx2,hg2,ha2⟩;have B1:=gZ (bt B0.o hb2);have T2:=gZ (pK (H1.o.keep B0.o).va HW.o.tw hb2 ht2 hx2 hg2 ha2);clear hb2 ht2 hx2 hg2 ha2 PA;go_wp2_with fail
   refine hK.o _ _ (SS.o _ B1.o) (λhHeld=>?_)
   try simp only[pt]
   refine eu (rs:=[4,18]) (by kernel_rfl) (by simp) ?_
   refine(AllReadyH.cons rfl (λKx hK=>?_) (AllReadyH.cons rfl (λKx hK=>?_) AllReadyH.nil))
   all_goals
    first
    |have wcx:=WC.o _ B1.o
     go_simp;clear wcx;refine hK.o _ _ (SS.o _ B1.o) (λhHeld=>?_)
     refine tw 18 λKx hK=>?_
     go_simp;refine(PD.o _ B1.o).mono ?_;rintro _ w3 ⟨aN,cN,N,rfl,hn3,hl3⟩;have B2:=gZ (bt B1.o hn3.b);have T3:=gZ (T2.o.keep hn3.b);have N3:=gZ (mQ (H1.o.keep B1.o).va hn3);have E3:=gZ (lw HW.o.tw hl3);have D3:Hid (∀p∈K.T,∀x∈N,Bdj p x.2):=λp hp x hx j h1 h2=>by have:=(H1.o.wr.bo.tp p hp).n.blk_lt h1;have:=(hn3.p x hx).1.blk_new h2;have:=B1.o.size;omega
     clear hn3 hl3 PD;go_wp2_with fail
     refine hK.o _ _ (SS.o _ B2.o) (λhHeld=>?_)
     refine tk 19 ?_;refine tw 20 λKx hK=>?_
     go_simp;have A4:=gZ (al w3 (.cells #[.func (.func 116) #[] #[.pointer (some ⟨tb,0,none⟩)],.slice aN N.length cN] 107));have B4:=gZ (bt B2.o A4.o);have X4:=gZ (aH w3 (.cells #[.func (.func 116) #[] #[.pointer (some ⟨tb,0,none⟩)],.slice aN N.length cN] 107));refine hK.o _ _ (SS.o _ B4.o) (λhHeld=>?_)
     try simp only[pt]
     generalize w3.alloc (.cells #[.func (.func 116) #[] #[.pointer (some ⟨tb,0,none⟩)],.slice aN N.length cN] 107)=w4 at*
    |go_simp
     refine(PD.o _ B1.o).mono ?_;rintro _ w3 ⟨aN,cN,N,rfl,hn3,hl3⟩;have B2:=gZ (bt B1.o hn3.b);have T3:=gZ (T2.o.keep hn3.b);have N3:=gZ (mQ (H1.o.keep B1.o).va hn3);have E3:=gZ (lw HW.o.tw hl3);have D3:Hid (∀p∈K.T,∀x∈N,Bdj p x.2):=λp hp x hx j h1 h2=>by have:=(H1.o.wr.bo.tp p hp).n.blk_lt h1;have:=(hn3.p x hx).1.blk_new h2;have:=B1.o.size;omega
     clear hn3 hl3 PD;go_wp2_with fail
     refine hK.o _ _ (SS.o _ B2.o) (λhHeld=>?_)
     refine tk 19 ?_;refine eu (rs:=[4,20]) (by kernel_rfl) (by simp) ?_
     refine(AllReadyH.cons rfl (λKx hK=>?_) (AllReadyH.cons rfl (λKx hK=>?_) AllReadyH.nil))
     all_goals
      first
      |have wcx:=WC.o _ B2.o
       go_simp;clear wcx;refine hK.o _ _ (SS.o _ B2.o) (λhHeld=>?_)
       refine tw 20 λKx hK=>?_
       go_simp;have A4:=gZ (al w3 (.cells #[.func (.func 116) #[] #[.pointer (some ⟨tb,0,none⟩)],.slice aN N.length cN] 107));have B4:=gZ (bt B2.o A4.o);have X4:=gZ (aH w3 (.cells #[.func (.func 116) #[] #[.pointer (some ⟨tb,0,none⟩)],.slice aN N.length cN] 107));refine hK.o _ _ (SS.o _ B4.o) (λhHeld=>?_)
       try simp only[pt]
       generalize w3.alloc (.cells #[.func (.func 116) #[] #[.pointer (some ⟨tb,0,none⟩)],.slice aN N.length cN] 107)=w4 at*
      |go_simp
       have A4:=gZ (al w3 (.cells #[.func (.func 116) #[] #[.pointer (some ⟨tb,0,none⟩)],.slice aN N.length cN] 107));have B4:=gZ (bt B2.o A4.o);have X4:=gZ (aH w3 (.cells #[.func (.func 116) #[] #[.pointer (some ⟨tb,0,none⟩)],.slice aN N.length cN] 107));refine hK.o _ _ (SS.o _ B4.o) (λhHeld=>?_)
       try simp only[pt]
       generalize w3.alloc (.cells #[.func (.func 116) #[] #[.pointer (some ⟨tb,0,none⟩)],.slice aN N.length cN] 107)=w4 at *;refine tw 4 λKx hK=>?_
       have wcx:=WC.o _ B4.o;go_simp;clear wcx;refine hK.o _ _ (SS.o _ B4.o) (λhHeld=>?_)
       try simp only[pt]
 all_goals
  obtain⟨gs,hgs⟩:∃gs,w3.heap.size=gs:=⟨_,rfl⟩;rw[hgs] at X4;try simp only[hgs]
  clear hgs;have G4:Hid (Q.Gw 107 2 w4 aW cW n (wlv W)):=by have e:=(H1.o.keep B4.o).wr.gw;rw[HN.o] at e;exact e
  have FIN:Hid (∀(g5 c5:Nat)(w5:World),Q.Gw 107 2 w5 (some ⟨g5,0,none⟩) c5 (n+1) (wlv W++({tb:=tb,a:=a,c:=c,L:=mA S o.n,aN:=aN,cN:=cN,N:=N}:Wl).cs)->New w4 aW (some ⟨g5,0,none⟩)->But (Q.InA aW) w4 w5->((w5.cell? ⟨wb,0,none⟩=some (.pointer (some ⟨b,0,none⟩))/\w5.cell? ⟨wb,1,none⟩=some (.pointer (some ⟨rb,0,none⟩))/\w5.cell? ⟨gi,1,none⟩=some (.int .i64 o.n))/\w5.frozen? ⟨wb,2,none⟩=false/\w5.cell? ⟨wb,2,none⟩=some (.slice aW n cW))/\((w5.setCell ⟨wb,2,none⟩ (.slice (some ⟨g5,0,none⟩) (n+1) c5)).cell? ⟨wb,0,none⟩=some (.pointer (some ⟨b,0,none⟩))/\(w5.setCell ⟨wb,2,none⟩ (.slice (some ⟨g5,0,none⟩) (n+1) c5)).cell? ⟨wb,1,none⟩=some (.pointer (some ⟨rb,0,none⟩))/\(w5.setCell ⟨wb,2,none⟩ (.slice (some ⟨g5,0,none⟩) (n+1) c5)).cell? ⟨gi,1,none⟩=some (.int .i64 o.n))/\Nx v w wb b rb pb mb col colR aW K M (.returned (.bool true)) (w5.setCell ⟨wb,2,none⟩ (.slice (some ⟨g5,0,none⟩) (n+1) c5))):=λg5 c5 w5 hG hN hB=>by
   obtain⟨q1,q2,q3⟩:=HW.o.walked (bt A0.o B2.o) T3.o N3.o E3.o D3.o A4.o (by rw[HN.o];exact hG) hN hB (show M<=M+20 by omega) (by have:=HW.o.wl;omega)
   rw[HN.o] at q1 q2 q3;have xi:w5.heap[gi]?=_:=hB.same (ig X0.o B4.o) (λ⟨y,hy,e⟩=>iO G4.o (ig X0.o B4.o) (by decide) y hy e)
   have gw:gi≠wb:=λe=>by
    have b:=(H1.o.wr.bo.box);rw[<-e,X0.o] at b;simp only[aE,dJ] at b;exact absurd b.2.1 (by decide)
   have xj:=((But.refl (λk=>k=wb) w5).setCell (p:=⟨wb,2,none⟩) (λ_=>rfl) (.slice (some ⟨g5,0,none⟩) (n+1) c5)).same xi gw
   obtain⟨k0,k1,k2,_⟩:=ij q1;exact⟨⟨⟨k0,k1,(g7 xi).2.1⟩,by simp[World.frozen?,q1],k2⟩,⟨q3.ws.cells.1,q3.ws.cells.2.1,(g7 xj).2.1⟩,rfl,S,D,H,pc,col,colR,_,_,_,K,q3,Fx.walked q2⟩
  refine tw 21 λKx hK=>?_
  refine lf Tryz.underlying52 xr rfl (by decide) rfl _ _ rfl aW n cW (wlv W) (by first|(simp[Act.eval];done)|simp[Act.eval,Act.put]) G4.o ⟨gs,0,none⟩ 1 ({tb:=tb,a:=a,c:=c,L:=mA S o.n,aN:=aN,cN:=cN,N:=N}:Wl).cs (by first|(simp[Act.eval];done)|simp[Act.eval,Act.put]) rfl (zh X4.o) AQ hml (by omega) ?_
  intro g5 c5 w5 hG hN hB;obtain⟨⟨h5,fS,cS⟩,h6,r6⟩:=FIN.o g5 c5 w5 hG hN hB;have H6:=gZ h6;have R6:=gZ r6;clear hG hN hB h6 r6 FIN;refine hK.o _ _ h5 (λhHeld=>?_)
  clear h5;refine tkb 22 23 ?_;refine tw 24 λKx hK=>?_
  go_simp;refine hK.o _ _ H6.o (λhHeld=>?_)
  refine td ?_;clear hHeld SS fS cS;go_wp2_with fail
  go_ret;exact R6.o
end
section
variable (v w:World) (wb b rb pb mb:Nat) (S:Vs) (D:Rd) (H:List Sn) (pc col colR:Nat->Nat) (aW:Option Addr) (cW:Nat) (W:List Wl) (K:Bkk) (M:Nat)
theorem yo(h:Wo v w wb b rb pb mb S D H pc col colR aW cW W K M)(hM:M<=100000000000)(o:Oq):
 Calls Tryz.prog 56 #[.pointer (some ⟨wb,0,none⟩),o.vl] w λe w'=>NxV v w wb b rb pb mb col colR aW cW W K M (λS'=>True) e w':=by
 have OV:Hid (o.vl=.agg o.cs):=rfl;rw[OV.o];have A0:=gZ (al w (.cells o.cs 33));have X0:=gZ (aH w (.cells o.cs 33));have Z0:=gZ (h.va.z (ai w.heap.size));have H1:=gZ (h.ws.keep A0.o);have HW:=gZ h;have hM2:M<=1000000000000:=by omega
 clear h;go_enter Tryz.func56,Tryz.ntmps56;obtain⟨c0,c1,c2,c3,c4,c5,c6,c7⟩:=g7 X0.o;by_cases hk:0<=o.k
 all_goals
  first
  |have dk:decide (0<=o.k)=true:=ay hk
   go_upto_region 3 with fail
   generalize w.alloc (.cells o.cs 33)=w1 at *;obtain⟨gi,hgi⟩:∃gi,w.heap.size=gi:=⟨_,rfl⟩;simp only[hgi] at X0 Z0 c0 c1 c2 c3 c4 c5 c6 c7 ⊢;clear hgi;have DR:=gZ (dr2 w1);have SS:Hid (∀W:World,Below w1.heap.size w1 W->W.cell? ⟨wb,1,none⟩=some (.pointer (some ⟨rb,0,none⟩))/\W.cell? ⟨gi,2,none⟩=some (.int .i64 o.k)):=λW hb=>⟨((H1.o.keep hb).cells).2.1,(g7 (ig X0.o hb)).2.2.1⟩
   clear c0 c1 c2 c3 c4 c5 c6 c7;have MD:=gZ (tF HW.o.tw hM2 w1.drew rb colR (H1.o.keep DR.o).va.R);obtain⟨y,hy⟩:∃y:Int,((S.fl+S.al.length:Nat):Int)=y:=⟨_,rfl⟩;simp only[hy] at MD;clear hy;obtain⟨z,hz⟩:∃z,IntKind.i64.wrap (y-o.k)=z:=⟨_,rfl⟩;refine wrd SS DR.o λhHeld=>?_
   refine tkd 0 1 2 3 ?_;refine tkb 5 6 ?_;refine tw 4 λKx hK=>?_
   go_simp;refine(MD.o).mono ?_;rintro _ w2 ⟨rfl,hb2⟩;have B2:=gZ (bt DR.o hb2);clear hb2;go_wp2_with fail
   refine hK.o _ _ (SS.o _ B2.o) (λhHeld=>?_)
   refine tkb 7 8 ?_;refine td ?_;clear hHeld SS hz dk;have H2:=gZ (H1.o.keep B2.o);have A2:=gZ (bt A0.o B2.o)
  |have dk:decide (0<=o.k)=false:=au hk
   go_upto_region 4 with fail
   generalize w.alloc (.cells o.cs 33)=w2 at *;clear c0 c1 c2 c3 c4 c5 c6 c7 dk;obtain⟨z,hz⟩:∃z,o.n=z:=⟨_,rfl⟩;simp only[hz];have H2:=H1;have A2:=A0
  have WV:=(H2.o.cells).1;obtain⟨u,hu⟩:∃u,S.undoB z=u:=⟨_,rfl⟩;obtain⟨S2,hS2⟩:∃S2,S.undoS z=S2:=⟨_,rfl⟩;have CA:=gZ (Dz HW.o.tw hM2 w2 b pb mb pc col H2.o.va.V z);have CD:=gZ λ(w2:World)(hR:Ra w2 rb D H colR)=>Ee HW.o.tw hM2 w2 rb colR hR z
  simp only[hu,hS2] at CA CD;clear hu hS2;have eq1:(u==u)=true:=by simp
  go_wp2_with fail
  refine CA.o.mono ?_;rintro _ w5 ⟨rfl,pc2,col2,hV2,hF2⟩;have F2:=gZ hF2;have H5:=gZ (H2.o.prog hV2 hF2);clear hV2 hF2 CA WV;go_upto_region 5 with fail
  have DR5:=gZ (dr2 w5);have CE:=gZ (CD.o w5.drew (H5.o.keep DR5.o).va.R);clear CD;refine bE (S:=λW=>W.cell? ⟨wb,0,none⟩=some (.pointer (some ⟨b,0,none⟩))/\W.cell? ⟨wb,1,none⟩=some (.pointer (some ⟨rb,0,none⟩))) (by kernel_rfl) (⟨((H5.o.keep DR5.o).cells).1,((H5.o.keep DR5.o).cells).2.1⟩) (λhHeld=>?_)
  refine tkd 0 1 2 3 ?_;refine tkb 4 5 ?_;refine tw 6 λKx hK=>?_
  go_simp;refine(CE.o).mono ?_;rintro _ w6 ⟨rfl,D3,Hs3,colR3,hR3,hF3,hT3⟩;have F3:=gZ ((Vf.keep (c:=colR) DR5.o).trans hF3);have H6:=gZ (H5.o.doc hR3 F3.o);have TW:=gZ hT3;clear hR3 hF3 hT3 CE;have MA:=gZ (yd TW.o hM2 w6 b pb mb pc2 col2 H6.o.va.V);have MD:=gZ λ(W:World)(hb:Below w6.heap.size w6 W)=>tF TW.o hM2 W rb colR3 (H6.o.keep hb).va.R
  obtain⟨y,hy⟩:∃y:Int,((S2.fl+S2.al.length:Nat):Int)=y:=⟨_,rfl⟩;simp only[hy] at MA MD;clear hy;have eq2:(y==y)=true:=by simp
  go_wp2_with fail
  refine hK.o _ _ (⟨H6.o.cells.1,H6.o.cells.2.1⟩) (λhHeld=>?_)
  refine tkd 7 8 9 10 ?_;refine tkd 11 12 14 15 ?_;refine tkb 16 17 ?_;refine tw 13 λKx hK=>?_
  go_simp;refine(MA.o).mono ?_;rintro _ w7 ⟨rfl,hb7⟩;have B7:=gZ hb7;clear hb7;go_wp2_with fail
  refine hK.o _ _ (⟨(H6.o.keep B7.o).cells.1,(H6.o.keep B7.o).cells.2.1⟩) (λhHeld=>?_)
  refine tw 18 λKx hK=>?_
  go_simp;refine(MD.o _ B7.o).mono ?_;rintro _ w8 ⟨rfl,hb8⟩;have B8:=gZ (bt B7.o hb8);clear hb8;go_wp2_with fail
  refine hK.o _ _ (⟨(H6.o.keep B8.o).cells.1,(H6.o.keep B8.o).cells.2.1⟩) (λhHeld=>?_)
  refine tkb 19 20 ?_;refine tk 21 ?_;refine td ?_;clear hHeld;go_wp2_with fail
  go_ret;exact⟨rfl,S2,D3,Hs3,pc2,col2,colR3,trivial,(H6.o.keep B8.o).wo HW.o (TW.o.up (by omega)) (by omega),(((Fx.keep A2.o).trans (Fx.vf F2.o) (λ_ _ e=>e)).trans (Fx.vfR F3.o) (λ_ _ e=>e)).trans (Fx.keep B8.o) (λ_ _ e=>e)⟩
theorem DP(h:Wo v w wb b rb pb mb S D H pc col colR aW cW W K M)(hM:M<=100000000000)(o:Oq)(hk:o.kind=12):
 Calls Tryz.prog 10 #[.pointer (some ⟨wb,0,none⟩),o.vl] w λe w'=>NxV v w wb b rb pb mb col colR aW cW W K M (λS'=>True) e w':=by
 have OV:Hid (o.vl=.agg o.cs):=rfl;rw[OV.o];have A0:=gZ (al w (.cells o.cs 33));have X0:=gZ (aH w (.cells o.cs 33));have Z0:=gZ (h.va.z (ai w.heap.size));have H1:=gZ (h.ws.keep A0.o);have HW:=gZ h;have hM2:M<=1000000000000:=by omega
 have HK:=gZ hk;clear h;go_enter Tryz.func10,Tryz.ntmps10;obtain⟨c0,c1,c2,c3,c4,c5,c6,c7⟩:=g7 X0.o;rw[hk] at c0;go_upto_region 40 with fail
 generalize w.alloc (.cells o.cs 33)=w1 at *;clear hk;obtain⟨gi,hgi⟩:∃gi,w.heap.size=gi:=⟨_,rfl⟩;simp only[hgi] at X0 Z0 c0 c1 c2 c3 c4 c5 c6 c7 ⊢;clear hgi;have DR:=gZ (dr2 w1);have UN:=gZ (yo v w1 wb b rb pb mb S D H pc col colR aW cW W K M (HW.o.keep A0.o) (by omega) o)
 have OK:Hid (o.vl=.agg #[.int .i64 12,.int .i64 o.n,.int .i64 o.k,.int .i64 o.p.kind,.int .i64 o.p.level,.slice o.p.aI o.p.items.length o.p.cI,.slice o.p.aD o.p.data.length o.p.cD,.int .i64 o.p.next]):=by
  show Value.agg o.cs=_;unfold Oq.cs;rw[HK.o]
 rw[OK.o] at UN;go_wp2_with fail
 refine UN.o.mono ?_;rintro _ w2 ⟨rfl,S',D',H',pc',col',colR',hP,hw,hf⟩;have WO:=gZ hw;have FX:=gZ ((Fx.keep A0.o).trans hf (λ_ _ e=>e))
 clear hw hf UN;go_wp2_with fail
 go_ret;exact⟨rfl,S',D',H',pc',col',colR',trivial,WO.o,FX.o⟩
end
section
variable (v w:World) (wb b rb pb mb:Nat) (S:Vs) (D:Rd) (H:List Sn) (pc col colR:Nat->Nat) (aW:Option Addr) (cW:Nat) (W:List Wl) (K:Bkk) (M:Nat)
theorem E5(h:Wo v w wb b rb pb mb S D H pc col colR aW cW W K M)(hM:M<=100000000000)(o:Oq)(hk:o.kind=9):
 Calls Tryz.prog 10 #[.pointer (some ⟨wb,0,none⟩),o.vl] w λe w'=>NxV v w wb b rb pb mb col colR aW cW W K M (λS'=>S'=S) e w':=by
 have OV:Hid (o.vl=.agg o.cs):=rfl;rw[OV.o];have A0:=gZ (al w (.cells o.cs 33));have X0:=gZ (aH w (.cells o.cs 33));have Z0:=gZ (h.va.z (ai w.heap.size));have H1:=gZ (h.ws.keep A0.o);have HW:=gZ h;have hM2:M<=1000000000000:=by omega
 clear h;go_enter Tryz.func10,Tryz.ntmps10;obtain⟨c0,c1,c2,c3,c4,c5,c6,c7⟩:=g7 X0.o;rw[hk] at c0;go_upto_region 28 with fail
 generalize w.alloc (.cells o.cs 33)=w1 at *;clear hk;obtain⟨gi,hgi⟩:∃gi,w.heap.size=gi:=⟨_,rfl⟩;simp only[hgi] at X0 Z0 c0 c1 c2 c3 c4 c5 c6 c7 ⊢;clear hgi;have DR:=gZ (dr2 w1);clear c0 c1 c2 c3 c4 c5 c6 c7;obtain⟨n,hn⟩:∃n,D.C.length=n:=⟨_,rfl⟩;have HN:=gZ hn;have hn0:0<n:=by rw[<-hn];exact(HW.o.tw.bnd hM2).n
 have hn6:n<=65536:=by rw[<-hn];exact H1.o.va.R.q.n6
 clear hn;have CV:=H1.o.cells.1;have CP:=H1.o.va.V.c0;have CA:=gZ (Q.xu w1 pb S.X.P pc H1.o.va.V.pl);simp only[HW.o.tw.counts,HN.o] at CA;go_wp2_with fail
 refine CA.o.mono ?_;rintro _ w2 ⟨a,c,rfl,ho⟩
 obtain⟨g,rfl⟩:∃g,a=some ⟨g,0,none⟩:=by
  rcases ho.r.cases with⟨_,_,e⟩|⟨g,cur,e,_⟩
  . have:=HN.o;rw[e] at this;simp at this;omega
  . exact⟨g,e⟩
 have O2:=gZ ho;clear ho CA CV CP
 have GN:Hid (w1.heap.size<=g):=by
  rcases O2.o.n ⟨g,0,none⟩ rfl with⟨_,e,_⟩|e
  . cases e
  . exact e
 have CR:=(H1.o.keep O2.o.b).cells.2.1;have CC:w2.cell? ⟨rb,1,none⟩=some (.slice D.aC n D.cC):=by rw[<-HN.o];exact((H1.o.keep O2.o.b).va.R.q.cells).2.1
 have EQ:=gZ (Q.ux w2 (some ⟨g,0,none⟩) D.aC n n c D.cC D.C O2.o.r.ir ((H1.o.keep O2.o.b).va.R.q.cr.ir) HN.o.symm HN.o.symm (by have:=HN.o;omega))
 go_wp2_with fail
 refine EQ.o.mono ?_;rintro _ w3 ⟨rfl,hb3⟩;have B3:=gZ (bt O2.o.b hb3);have O3:=gZ (O2.o.r.keep hb3);clear hb3 EQ CR CC O2;go_wp2_with fail
 go_loopw [21] (λvi wx=>∃(j:Nat)(l:List Int),j<=n/\vi=.int .i64 (j:Int)/\l.length=n/\Q.Ig wx (some ⟨g,0,none⟩) c l/\But (λk=>k=g) w3 wx) (λvi _=>n-(intOf vi).toNat)
 case atStart=>exact⟨0,D.C,aF _,rfl,HN.o,O3.o,But.refl _ _⟩
 case round=>
  obtain⟨j,l,hj,rfl,hll,hI,hBt⟩:=hrel;have LL:=gZ hll;have IG:=gZ hI;have BT:=gZ hBt;clear hll hI hBt;by_cases hlt:j<n
  . have hji:(j:Int)<(n:Int):=by omega
    have cV:=IG.o.cell (i:=j) (by rw[LL.o];exact hlt)
    have fV:wr.frozen? ⟨g,j,none⟩=false:=by
     rcases IG.o.cases with⟨e,_⟩|⟨g',cur,e,h2,_⟩
     . cases e
     . cases e;simp[World.frozen?,h2]
    have R2:=gZ (IG.o.set j 9);have B2:Hid (But (λk=>k=g) w3 (wr.setCell ⟨g,j,none⟩ (.int .i64 9))):=BT.o.setCell (p:=⟨g,j,none⟩) (λ_=>rfl) _
    go_wp2_with fail
    generalize hwn:wr.setCell ⟨g,j,none⟩ (.int .i64 9)=wn at *;clear hwn;go_roundw
    case rel=>exact⟨j+1,l.set j 9,by omega,by go_num,by rw[aO];exact LL.o,R2.o,B2.o⟩
    case measure=>simp[intOf];omega
  . obtain rfl:j=n:=by omega
    have B4:Hid (Below w1.heap.size w1 wr):=((But.ofBelow (S:=λ_=>False) B3.o).trans BT.o (λk hk e=>by have:=GN.o;omega)).below (λ_ _ e=>e)
    go_wp2_with fail
    go_ret;exact⟨rfl,S,D,H,pc,col,colR,rfl,(HW.o.keep (bt A0.o B4.o)).up (by omega),Fx.keep (bt A0.o B4.o)⟩
end
def U8r(w:World)(a:Option Addr)(m:Nat):Prop:=∃(gk:Nat)(cur:Array Value),a=some ⟨gk,0,none⟩/\w.heap[gk]?=some (.cells cur 5 (0,0))/\m<=cur.size/\∀t,t<m->∃x:Nat,x<256/\cur[t]?=some (.int .u8 ((x:Nat):Int))
section
variable {S:Nat->Prop} {v w w' w9 wx:World} {a:Option Addr} {m g g5 n i:Nat} {p q:Pv} {L:List Iv}
theorem Sl.u8{c:Nat}{l:List Nat}(h:Sl w a c l):U8r w a l.length:=by
 obtain⟨⟨g,e,cur,hg,hs,hc⟩,_,_,h8⟩:=h;refine⟨g,cur,e,hg,by omega,λt ht=>⟨l.getD t 0,h8 _ (by simp[ht]),?_⟩⟩
 rw[hc t (by omega)]
 exact aY some (if_pos ht)
theorem U8r.cell(h:U8r w (some ⟨g,0,none⟩) m){t:Nat}(ht:t<m):∃x:Nat,x<256/\w.cell? ⟨g,t,none⟩=some (.int .u8 ((x:Nat):Int))/\w.frozen? ⟨g,t,none⟩=false:=by
 obtain⟨gk,cur,e,hg,hs,hc⟩:=h;cases e;obtain⟨x,hx,hc⟩:=hc t ht;exact⟨x,hx,by rw[ax _ _ _ _ _ _ hg];exact hc,by simp[World.frozen?,hg]⟩
theorem U8r.off(h:U8r w a m)(hb:But S w w')(hn:∀x,a=some x->¬S x.block):U8r w' a m:=by
 obtain⟨gk,cur,e,hg,hs,hc⟩:=h;exact⟨gk,cur,e,hb.same hg (hn _ e),hs,hc⟩
theorem U8r.set(h:U8r w a m){gk t z:Nat}(hz:z<256):U8r (w.setCell ⟨gk,t,none⟩ (.int .u8 ((z:Nat):Int))) a m:=by
 obtain⟨g,cur,e,hg,hs,hc⟩:=h;by_cases hk:g=gk
 . subst hk;refine⟨g,cur.setIfInBounds t (.int .u8 ((z:Nat):Int)),e,aR _ _ _ _ _ _ hg,by simpa using hs,λj hj=>?_⟩
   by_cases hjt:t=j
   . subst hjt;exact⟨z,hz,Array.getElem?_setIfInBounds_self_of_lt (by omega)⟩
   . obtain⟨x,hx,hc⟩:=hc j hj;exact⟨x,hx,by rw[fw hjt];exact hc⟩
 . exact⟨g,cur,e,((But.refl (λk=>k=gk) w).setCell (p:=⟨gk,t,none⟩) (λ_=>rfl) _).same hg hk,hs,hc⟩
structure Lo(w9 wx:World)(g5 g:Nat)(q:Pv)(n i:Nat)(L:List Iv):Prop where
 bx:wx.heap[g5]?=some (.cells #[.int .i64 q.kind,.int .i64 q.level,.slice (some ⟨g,0,none⟩) n (n+2),.slice q.aD q.data.length q.cD,.int .i64 q.next] 31 (0,0))
 qg:q.aI=some ⟨g,0,none⟩
 ll:L.length=n+2
 ql:q.items.length=n
 li:∀j,i<=j->j<n->L.getD j Iv.zero=q.items.getD j Iv.zero
 jw:Jw wx (some ⟨g,0,none⟩) (n+2) L
 u8:∀t∈rp q,U8r wx t.a t.l.length
 bt:But (Blk q) w9 wx
theorem Lo.heap(h:Lo w9 wx g5 g q n i L):∃cur,wx.heap[g]?=some (.cells cur 51 (0,0)):=by
 rcases h.jw.cases with⟨e,_⟩|⟨g',cur,e,h2,_⟩
 . cases e
 . cases e;exact⟨cur,h2⟩
theorem Lo.byte(h:Lo w9 wx g5 g q n i L){t:Br}(ht:t∈rp q){gk:Nat}(hk:t.a=some ⟨gk,0,none⟩)(k:Nat){z:Nat}(hz:z<256):Lo w9 (wx.setCell ⟨gk,k,none⟩ (.int .u8 ((z:Nat):Int))) g5 g q n i L:=by
 obtain⟨gk',cur,e,hg,_,_⟩:=h.u8 t ht;rw[hk] at e;cases e;have bs:But (λj=>j=gk) wx (wx.setCell ⟨gk,k,none⟩ (.int .u8 ((z:Nat):Int))):=(But.refl (λj=>j=gk) wx).setCell (p:=⟨gk,k,none⟩) (λ_=>rfl) _
 obtain⟨cg,hcg⟩:=h.heap
 have n5:g5≠gk:=λe=>by
  have b:=h.bx;rw[e,hg] at b;simp only[aE,dJ] at b;exact absurd b.2.1 (by decide)
 have ng:g≠gk:=λe=>by
  rw[e,hg] at hcg;simp only[aE,dJ] at hcg;exact absurd hcg.2.1 (by decide)
 exact⟨bs.same h.bx n5,h.qg,h.ll,h.ql,h.li,h.jw.but bs (λx hx=>by cases hx;exact ng),λu hu=>(h.u8 u hu).set hz,h.bt.trans bs (λj _ e=>.inr ⟨t,ht,_,hk,e.symm⟩)⟩
theorem Lo.zero(h:Lo w9 wx g5 g q n i L):Lo w9 (wx.setCells g (i*4) Iv.zero.cs.toList) g5 g q n (i+1) (L.set i Iv.zero):=by
 have bs:=iV g Iv.zero.cs.toList wx (i*4);obtain⟨cg,hcg⟩:=h.heap
 have n5:g5≠g:=λe=>by
  have b:=h.bx;rw[e,hcg] at b;simp only[aE,dJ] at b;exact absurd b.2.1 (by decide)
 refine⟨bs.same h.bx n5,h.qg,by rw[aO];exact h.ll,h.ql,λj h1 h2=>?_,h.jw.setv i Iv.zero,λu hu=>(h.u8 u hu).off bs (λx hx e=>?_),h.bt.trans bs (λj _ e=>.inl ⟨_,h.qg,e.symm⟩)⟩
 . rw[<-h.li j (by omega) h2]
   simp only[aq];rw[bT (by omega)]
 . obtain⟨gk,cur,e2,hg,_⟩:=h.u8 u hu;rw[hx] at e2;cases e2;have e:gk=g:=e;rw[e,hcg] at hg;simp only[aE,dJ] at hg;exact absurd hg.2.1 (by decide)
theorem Lo.kv(h:Lo w9 wx g5 g q n i L)(hi:i<n):U8r wx (q.items.getD i Iv.zero).aK (q.items.getD i Iv.zero).key.length/\U8r wx (q.items.getD i Iv.zero).aV (q.items.getD i Iv.zero).val.length/\(⟨(q.items.getD i Iv.zero).aK,(q.items.getD i Iv.zero).cK,(q.items.getD i Iv.zero).key⟩:Br)∈rp q/\(⟨(q.items.getD i Iv.zero).aV,(q.items.getD i Iv.zero).cV,(q.items.getD i Iv.zero).val⟩:Br)∈rp q:=by
 have hm:q.items.getD i Iv.zero∈q.items:=by
  have:=h.ql;simp only[aq];rw[aS (by omega)]
  exact dX _
 generalize q.items.getD i Iv.zero=x at *;have k1:(⟨x.aK,x.cK,x.key⟩:Br)∈rp q:=dS _ ((jV hm).subset (by simp[Iv.rows]))
 have k2:(⟨x.aV,x.cV,x.val⟩:Br)∈rp q:=dS _ ((jV hm).subset (by simp[Iv.rows]))
 exact⟨h.u8 _ k1,h.u8 _ k2,k1,k2⟩
theorem Sp.but(h:Sp v w p q)(hb:But S w w')(hw:Below v.heap.size v w')(hn:∀k,Blk q k->¬S k):Sp v w' p q:=by
 obtain⟨g,D,e1,e2,e3,e4,e5⟩:=h.it;exact⟨h.e,h.s.but hb hw (λt ht x hx=>hn _ (.inr ⟨t,ht,x,hx,rfl⟩)),⟨g,D,e1,e2,e3.but hb (λx hx=>by cases hx;exact hn _ (.inl ⟨_,e1,rfl⟩)),e4,e5⟩,hw⟩
theorem Sp.blk(h:Sp v w p q){k:Nat}(hk:Blk q k):v.heap.size<=k/\k<w.heap.size:=by
 obtain⟨g,D,e1,e2,e3,e4,e5⟩:=h.it;rcases hk with⟨x,hx,rfl⟩|⟨t,ht,y,hy,rfl⟩
 . rw[e1] at hx;cases hx;exact⟨e5,e3.lt rfl⟩
 . have o:=(h.s.f.own t ht).1;exact⟨yb o.n hy,o.r.lt hy⟩
theorem Sp.lo(h:Sp v w p q)(hb:w.heap[g5]?=some (.cells #[.int .i64 q.kind,.int .i64 q.level,.slice q.aI q.items.length q.cI,.slice q.aD q.data.length q.cD,.int .i64 q.next] 31 (0,0)))(hn:q.items.length=n):∃g L,q.aI=some ⟨g,0,none⟩/\q.cI=n+2/\Lo w w g5 g q n 0 L:=by
 obtain⟨g,D,e1,e2,e3,e4,e5⟩:=h.it;have hl:p.items.length=n:=h.len.symm.trans hn;rw[hl] at e2 e3;refine⟨g,q.items++D,e1,e2,by rw[e1,hn,e2] at hb;exact hb,e1,by rw[ae,hn,e4];rfl,hn,λj _ hj=>?_,e3,λt ht=>(h.s.s t ht).u8,But.refl _ _⟩
 simp only[aq];rw[bm (by omega)]
end
section
variable {v w w':World} {wb b rb pb mb:Nat} {S S':Vs} {D D':Rd} {H H':List Sn} {pc pc' col col' colR colR':Nat->Nat} {aW:Option Addr} {cW:Nat} {W:List Wl} {K:Bkk} {M N:Nat}
theorem Wr.fx(h:Wr v w wb b rb col colR aW cW W K)(hd:∀k,col k≠0->colR k=0)(hf:Fx w col colR (λ_=>False) w' col' colR'):Wr v w' wb b rb col' colR' aW cW W K:=by
 have b1:Bo v w' wb b rb col' colR' (.slice aW W.length cW) K:=(h.bo.recol hf.c hf.r).but hf.b (λk hk e=>by
  have:=h.bo.own0 hk;rcases e with e|e|e
  . omega
  . omega
  . exact e) (λp hp k hk e=>by
  have:=(h.bo.tp p hp).c k hk;rcases e with e|e|e
  . omega
  . omega
  . exact e) (λp hp k hk e=>by
  have:=(h.bo.xp p hp).c k hk;rcases e with e|e|e
  . omega
  . omega
  . exact e)
 have ou:∀{a:Option Addr},Ou v col colR a->∀y,a=some y->¬((1<=col y.block/\col y.block<=5)\/(1<=colR y.block/\colR y.block<=5)\/False):=λho y hy e=>by
  have:=ho y hy;rcases e with e|e|e
  . omega
  . omega
  . exact e
 refine⟨b1,h.gw.but hf.b (ou h.oW),h.oW.go (λy hy=>h.gw.lt hy) hf.c hf.r,λk hk=>?_,λk hk=>?_⟩
 . have t:=h.wt k hk
   have h2:=t.but hf.b (λe=>by
    have:=t.tc;rcases e with e|e|e
    . omega
    . omega
    . exact e) (ou t.la) (λk e1 e2=>by
    have:=hd k (by omega)
    rcases e2 with e|e|e
    . omega
    . omega
    . exact e)
   have h3:=t.recol hf.c hf.r
   exact⟨h2.bx,h3.tc,h2.lr,h3.la,λx hx=>(h3.lp x hx).but hf.b (λk hk e1 e2=>by
    rw[hf.c k hk] at e1;have:=hd k (by omega)
    rcases e2 with e|e|e
    . omega
    . omega
    . exact e),t.ls⟩
 . have t:=h.wn k hk
   have h2:=t.but hf.b (ou t.na) (λx hx k hk e=>by
    have:=(t.np x hx).c k hk;rcases e with e|e|e
    . omega
    . omega
    . exact e)
   have h3:=t.recol hf.c hf.r;exact⟨h2.nr,h3.na,λx hx=>⟨(h2.np x hx).n,(t.np x hx).l,(h3.np x hx).c⟩⟩
end
end Go.Proofs.YtbdkogimlbnlmaaGreat
