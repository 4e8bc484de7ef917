import Derived.Test.YtbdkogimlbnlmaaGreatWqB3
set_option linter.unusedVariables false
set_option linter.unusedSimpArgs false
set_option maxHeartbeats 2000000
namespace Go.Proofs.YtbdkogimlbnlmaaGreat.Q
open Go.RowKit
set_option maxRecDepth 20000 in
theorem ua(w:World)(a:Option Addr)(cap:Nat)(A M B:List Rn)(hR:Vw w a cap (A++M++B))(av:Option Addr)(cv:Nat)(V:List Rn)(hV:Vw w av cv V)(hne:∀x y,a=some x->av=some y->x.block≠y.block)(hl:A.length+M.length+B.length+V.length<=14000000000000)(hm0:M≠[])(hb0:0<B.length)(hroom:cap<A.length+V.length+B.length):
 Calls Tryz.prog 178 #[.slice a ((A.length+M.length+B.length:Nat)) cap,.int .i64 ((A.length:Nat):Int),.int .i64 ((A.length+M.length:Nat):Int),.slice av V.length cv] w λe w'=>
  ∃a' cap',e=.returned (.slice a' ((A.length+V.length+B.length:Nat)) cap')/\Vw w' a' cap' (A++V++B)/\New w a a'/\But (InA a) w w':=by
 have hcl:=hR.len;rw[ae,ae] at hcl;unfold maxLen at hcl;obtain⟨hc1,hc2⟩:=hcl;have hmp:0<M.length:=bM.2 hm0;rcases hR.cases with⟨_,_,h0⟩|⟨g,Y,rfl,hg,h1,h2,h3⟩
 . simp at h0;exact absurd h0.2.1 hm0
 rw[ae,ae] at h3;rw[il,il,aM,aM] at hg;have lA:=g9 A;have lM:=g9 M;have lB:=g9 B;have lV:=g9 V;have hVs:=hV.vs;have hV1:rc V=[]\/∃b o,av=some ⟨b,o,none⟩/\Cs w b o (rc V):=hVs.imp (λh=>by rw[h];rfl) id
 have avne:∀b o,av=some ⟨b,o,none⟩->b≠g:=λb o e e2=>hne ⟨g,0,none⟩ ⟨b,o,none⟩ rfl e e2.symm
 have RA:Vw w (some ⟨g,0,none⟩) cap A:=by
  rw[aM] at hR;rcases hR.front with h|h
  . exact h
  . cases h
 have cB:Cs w g ((A.length+M.length)*2) (rc B):=by
  have:=hg.cs (P:=rc A++rc M) (X:=rc B) (Y:=Y) (by simp)
  rwa [ae,lA,lM,<-gB] at this
 obtain⟨nA,hA⟩:∃m:Nat,m=A.length:=⟨_,rfl⟩;obtain⟨nM,hM⟩:∃m:Nat,m=M.length:=⟨_,rfl⟩;obtain⟨nB,hB⟩:∃m:Nat,m=B.length:=⟨_,rfl⟩;obtain⟨nV,hnV⟩:∃m:Nat,m=V.length:=⟨_,rfl⟩;rw[<-hA] at lA hl hc1 h3 cB ⊢;rw[<-hM] at lM hl hc1 h3 hmp cB ⊢;rw[<-hB] at lB hl hc1 h3 ⊢;rw[<-hnV] at lV hl ⊢;obtain⟨nS,hS⟩:∃m:Nat,m=nA+nM+nB:=⟨_,rfl⟩;obtain⟨nJ,hJ⟩:∃m:Nat,m=nA+nM:=⟨_,rfl⟩;obtain⟨nT,hT⟩:∃m:Nat,m=nA+nV+nB:=⟨_,rfl⟩;obtain⟨nX,hX⟩:∃m:Nat,m=nA+nV:=⟨_,rfl⟩;rw[<-hJ] at cB;rw[<-hS,<-hJ,<-hT];have l1:nA<=nJ:=by omega
 have l2:nJ<=nS:=by omega
 have l3:nS<=cap:=by omega
 have l4:¬nA=nJ:=by omega
 have l5:nT<=14000000000000:=by omega
 have l6:nS<=14000000000000:=by omega
 have l7:nX<=nT:=by omega
 have l8:¬cap=nA:=by omega
 have x1:(nA:Int)<=(nJ:Int):=by omega
 have x2:(nJ:Int)<=(nS:Int):=by omega
 have x3:(nA:Int)<=(nS:Int):=by omega
 have wX:IntKind.i64.wrap (nX:Int)=(nX:Int):=im (by omega) (by omega)
 have gl:=hg.lt;rw[<-hB] at hb0;have l9:¬nJ=nS:=by omega
 have l11:¬cap=nJ:=by omega
 have n5:nS-nJ=nB:=by omega
 have i1:(nA:Int)+(nV:Int)=(nX:Int):=by omega
 have i2:(nX:Int)+(nB:Int)=(nT:Int):=by omega
 have x5:(nX:Int)<=(nT:Int):=by omega
 have x6:(nA:Int)<=(nT:Int):=by omega
 have n6:nT-nX=nB:=by omega
 have wT:IntKind.i64.wrap (nT:Int)=(nT:Int):=im (by omega) (by omega)
 rw[<-hA,<-hB,<-hnV,<-hT] at hroom;have FF:=gZ (And.intro hS (And.intro hJ (And.intro hT (And.intro hX (And.intro hA (And.intro hM (And.intro hB hnV)))))));have F2:=gZ (And.intro lA (And.intro lM (And.intro lB lV)));have F3:=gZ h3;have F4:=gZ hg;have F5:=gZ RA;have F6:=gZ hV;have F7:=gZ hne;have F8:=gZ cB;have F9:=gZ hl;clear hS hJ hT hX hA hM hB hnV lA lM lB lV h3 hg RA hV hne cB hl hVs hV1 avne hR hc1 h1 h2;go_enter Tryz.func178,Tryz.ntmps178;go_wp2_with fail
 go_quiet (fail)
 obtain⟨W0,hW0⟩:∃W0,w.drewN nq=W0:=⟨_,rfl⟩;have b0:Below w.heap.size w W0:=by rw[<-hW0];exact qe _ _
 have s0:W0.heap.size=w.heap.size:=by rw[<-hW0];rfl
 rw[hW0];obtain⟨hS,hJ,hT,hX,hA,hM,hB,hnV⟩:=FF.o;obtain⟨lA,lM,lB,lV⟩:=F2.o;have h3:=F3.o;have hg:=F4.o.keep b0;have RA:=F5.o.keep b0;have hV:=F6.o.keep b0;have hne:=F7.o;have cB:=F8.o.keep b0;have hl:=F9.o;have hv0:V≠[]:=λe=>by rw[e] at hnV;simp at hnV;omega
 obtain⟨nZ,hZ⟩:∃m:Nat,m=nV+nB:=⟨_,rfl⟩;have i3:(nT:Int)-(nA:Int)=(nZ:Int):=by omega
 have n2:nT-nA=nZ:=by omega
 have zA:nA+nZ=nT:=by omega
 rcases hV.cases with⟨_,_,h0⟩|⟨gv,Yv,rfl,hgv,v1,v2,v3⟩
 . exact absurd h0 hv0
 have hgg:g≠gv:=hne _ _ rfl rfl;have cV:Cs W0 gv 0 (rc V):=hgv.cs (P:=[]) (X:=rc V) (Y:=Yv) (by simp)
 obtain⟨cap',w1,hrun1,hv1,hb1⟩:=ro W0 169 (some ⟨g,0,none⟩) nA cap A hA RA.vs nZ (by omega) (by rw[<-hA,zA];exact hroom) (by rw[<-hA,zA];exact l5)
 rw[zA] at hrun1;have hl1:=hv1.len;rw[ae,be,<-hA,zA] at hl1;obtain⟨hl1a,hl1b⟩:=hl1;unfold maxLen at hl1b;have hcz3:¬cap'=nA:=by omega
 have hcz4:¬cap'=nX:=by omega
 rcases hv1.cases with⟨h0,_⟩|⟨H,Y1,h0,hg1,y1,y2,y3⟩
 . cases h0
 simp only[aE,Addr.mk.injEq,dT] at h0;subst h0;rw[il,aM] at hg1;rw[ae,be,<-hA] at y3;have lZ:(rc (List.replicate nZ Rn.zero)).length=nZ*2:=by rw[g9,be]
 obtain⟨w2,hrun2,r2,b2⟩:=i7 w1 3 W0.heap.size nZ (cap'-nA) (some ⟨gv,0,none⟩) nV cv (rc A) (rc V) (rc (List.replicate nZ Rn.zero)++Y1) hg1 (by rw[lV,show Nat.min nV nZ=nV from cY (by omega)]) (.inr ⟨gv,0,rfl,cV.keep hb1⟩) (by rw[ae,lZ,lV];omega) (jk V)
 rw[lA] at hrun2;have bB2:Cs w2 g (nJ*2) (rc B):=(cB.keep hb1).but b2 (show ¬g=W0.heap.size by omega)
 have ly:((rc (List.replicate nZ Rn.zero)++Y1).drop (rc V).length).length=nB*2+Y1.length:=by rw[dc,ae,lZ,lV];omega
 generalize (rc (List.replicate nZ Rn.zero)++Y1).drop (rc V).length=Y2 at *;obtain⟨w3,hrun3,r3,b3⟩:=i7 w2.drew 3 W0.heap.size nB (cap'-nX) (some ⟨g,nJ*2,none⟩) nB (cap-nJ) (rc A++rc V) (rc B) Y2 r2 (by rw[lB,show Nat.min nB nB=nB from gQ _]) (.inr ⟨g,nJ*2,rfl,bB2⟩) (by rw[ly,lB];omega) (jk B)
 rw[ae,lA,lV,show nA*2+nV*2=nX*2 by omega] at hrun3
 have goal:∀w4,w4=w3->∃a' cap'',Ending.returned (.slice (some ⟨W0.heap.size,0,none⟩) nT cap')=.returned (.slice a' nT cap'')/\Vw w4 a' cap'' (A++V++B)/\New w (some ⟨g,0,none⟩) a'/\But (InA (some ⟨g,0,none⟩)) w w4:=by
  rintro w4 rfl;refine⟨_,cap',rfl,Vw.mk (Y:=Y2.drop (rc B).length) (by rw[il,il];exact r3) ?_ (by unfold maxLen;omega) ?_,λz hz=>.inr (by cases hz;exact gR s0.symm),?_⟩
  . rw[ae,ae,<-hA,<-hB,<-hnV];omega
  . rw[ae,ae,<-hA,<-hB,<-hnV,dc,lB,ly];omega
  . exact((But.ofBelow (bt b0 hb1)).trans b2 (λk hk e=>by omega)).trans ((But.drew (But.refl (λk=>k=W0.heap.size) w2)).trans b3 (λ_ _ h=>h)) (λk hk e=>by omega)
 have GG:=gZ goal;clear goal r3 b3 b2 ly y3 r2 bB2 hv1 hg1 lZ hZ zA hA hM hB hnV hv0 cV hgv v1 v2 v3 y1 y2 hb1 s0;clear hS hJ hT hX lA lM lB lV h3 hg hV RA hne hl cB hW0 FF F2 F3 F4 F5 F6 F7 F8 F9;go_wp2_with (at_builtin;refine Lib.wpList_append_run _ rfl _ _ _ _ rfl _ _ rfl rfl _ _ hrun1 ?_)
 go_region
 all_goals
  go_wp2;go_ret;exact GG.o _ rfl
set_option maxRecDepth 20000 in
theorem uw(w:World)(a:Option Addr)(cap:Nat)(A M B:List Rn)(hR:Vw w a cap (A++M++B))(av:Option Addr)(cv:Nat)(V:List Rn)(hV:Vw w av cv V)(hne:∀x y,a=some x->av=some y->x.block≠y.block)(hl:A.length+M.length+B.length+V.length<=14000000000000)(hm0:M≠[])(hb0:0<B.length)(hroom:A.length+V.length+B.length<=cap)(hvm:V.length<=M.length):
 Calls Tryz.prog 178 #[.slice a ((A.length+M.length+B.length:Nat)) cap,.int .i64 ((A.length:Nat):Int),.int .i64 ((A.length+M.length:Nat):Int),.slice av V.length cv] w λe w'=>
  ∃a' cap',e=.returned (.slice a' ((A.length+V.length+B.length:Nat)) cap')/\Vw w' a' cap' (A++V++B)/\New w a a'/\But (InA a) w w':=by
 have hcl:=hR.len;rw[ae,ae] at hcl;unfold maxLen at hcl;obtain⟨hc1,hc2⟩:=hcl;have hmp:0<M.length:=bM.2 hm0;rcases hR.cases with⟨_,_,h0⟩|⟨g,Y,rfl,hg,h1,h2,h3⟩
 . simp at h0;exact absurd h0.2.1 hm0
 rw[ae,ae] at h3;rw[il,il,aM,aM] at hg;have lA:=g9 A;have lM:=g9 M;have lB:=g9 B;have lV:=g9 V;have hVs:=hV.vs;have hV1:rc V=[]\/∃b o,av=some ⟨b,o,none⟩/\Cs w b o (rc V):=hVs.imp (λh=>by rw[h];rfl) id
 have avne:∀b o,av=some ⟨b,o,none⟩->b≠g:=λb o e e2=>hne ⟨g,0,none⟩ ⟨b,o,none⟩ rfl e e2.symm
 have RA:Vw w (some ⟨g,0,none⟩) cap A:=by
  rw[aM] at hR;rcases hR.front with h|h
  . exact h
  . cases h
 have cB:Cs w g ((A.length+M.length)*2) (rc B):=by
  have:=hg.cs (P:=rc A++rc M) (X:=rc B) (Y:=Y) (by simp)
  rwa [ae,lA,lM,<-gB] at this
 obtain⟨nA,hA⟩:∃m:Nat,m=A.length:=⟨_,rfl⟩;obtain⟨nM,hM⟩:∃m:Nat,m=M.length:=⟨_,rfl⟩;obtain⟨nB,hB⟩:∃m:Nat,m=B.length:=⟨_,rfl⟩;obtain⟨nV,hnV⟩:∃m:Nat,m=V.length:=⟨_,rfl⟩;rw[<-hA] at lA hl hc1 h3 cB ⊢;rw[<-hM] at lM hl hc1 h3 hmp cB ⊢;rw[<-hB] at lB hl hc1 h3 ⊢;rw[<-hnV] at lV hl ⊢;obtain⟨nS,hS⟩:∃m:Nat,m=nA+nM+nB:=⟨_,rfl⟩;obtain⟨nJ,hJ⟩:∃m:Nat,m=nA+nM:=⟨_,rfl⟩;obtain⟨nT,hT⟩:∃m:Nat,m=nA+nV+nB:=⟨_,rfl⟩;obtain⟨nX,hX⟩:∃m:Nat,m=nA+nV:=⟨_,rfl⟩;rw[<-hJ] at cB;rw[<-hS,<-hJ,<-hT];have l1:nA<=nJ:=by omega
 have l2:nJ<=nS:=by omega
 have l3:nS<=cap:=by omega
 have l4:¬nA=nJ:=by omega
 have l5:nT<=14000000000000:=by omega
 have l6:nS<=14000000000000:=by omega
 have l7:nX<=nT:=by omega
 have l8:¬cap=nA:=by omega
 have x1:(nA:Int)<=(nJ:Int):=by omega
 have x2:(nJ:Int)<=(nS:Int):=by omega
 have x3:(nA:Int)<=(nS:Int):=by omega
 have wX:IntKind.i64.wrap (nX:Int)=(nX:Int):=im (by omega) (by omega)
 have gl:=hg.lt;rw[<-hB] at hb0;have l9:¬nJ=nS:=by omega
 have l11:¬cap=nJ:=by omega
 have n5:nS-nJ=nB:=by omega
 have i1:(nA:Int)+(nV:Int)=(nX:Int):=by omega
 have i2:(nX:Int)+(nB:Int)=(nT:Int):=by omega
 have x5:(nX:Int)<=(nT:Int):=by omega
 have x6:(nA:Int)<=(nT:Int):=by omega
 have n6:nT-nX=nB:=by omega
 have wT:IntKind.i64.wrap (nT:Int)=(nT:Int):=im (by omega) (by omega)
 rw[<-hA,<-hB,<-hnV,<-hT] at hroom;rw[<-hM,<-hnV] at hvm;have lX:nX<=nJ:=by omega
 have xX:(nX:Int)<=(nJ:Int):=by omega
 have lTS:nT<=nS:=by omega
 have xTS:(nT:Int)<=(nS:Int):=by omega
 have lXc:¬cap=nX:=by omega
 have n7:nT-nA=nV+nB:=by omega
 obtain⟨nZ,hZ⟩:∃m:Nat,m=nV+nB:=⟨_,rfl⟩;rw[<-hZ] at n7;obtain⟨nD,hD⟩:∃m:Nat,m=nM-nV:=⟨_,rfl⟩;have n8:nS-nT=nD:=by omega
 have HZ:=gZ hZ;have HD:=gZ hD;clear hZ hD;have FF:=gZ (And.intro hS (And.intro hJ (And.intro hT (And.intro hX (And.intro hA (And.intro hM (And.intro hB hnV)))))));have F2:=gZ (And.intro lA (And.intro lM (And.intro lB lV)));have F3:=gZ h3;have F4:=gZ hg;have F5:=gZ RA;have F6:=gZ hV;have F7:=gZ hne;have F8:=gZ cB;have F9:=gZ hl;clear hS hJ hT hX hA hM hB hnV lA lM lB lV h3 hg RA hV hne cB hl hVs hV1 avne hR hc1 h1 h2;go_enter Tryz.func178,Tryz.ntmps178;go_wp2_with fail
 go_quiet (fail)
 obtain⟨W0,hW0⟩:∃W0,w.drewN nq=W0:=⟨_,rfl⟩;have b0:Below w.heap.size w W0:=by rw[<-hW0];exact qe _ _
 have s0:W0.heap.size=w.heap.size:=by rw[<-hW0];rfl
 rw[hW0];obtain⟨hS,hJ,hT,hX,hA,hM,hB,hnV⟩:=FF.o;obtain⟨lA,lM,lB,lV⟩:=F2.o;have h3:=F3.o;have hg:=F4.o.keep b0;have RA:=F5.o.keep b0;have hV:=F6.o.keep b0;have hne:=F7.o;have cB:=F8.o.keep b0;have hl:=F9.o;have hZ:=HZ.o;have hD:=HD.o;have hV1:rc V=[]\/∃b o,av=some ⟨b,o,none⟩/\Cs W0 b o (rc V):=hV.vs.imp (λh=>by rw[h];rfl) id
 obtain⟨w1,hrun1,r1,b1⟩:=i7 W0 3 g nZ (cap-nA) av nV cv (rc A) (rc V) (rc M++(rc B++Y)) hg (by rw[lV,show Nat.min nV nZ=nV from cY (by omega)]) hV1 (by rw[ae,lM,lV];omega) (jk V)
 rw[lA] at hrun1;obtain⟨M1,M2,hMM,lM1⟩:∃M1 M2,rc M=M1++M2/\M1.length=nV*2:=⟨(rc M).take (nV*2),(rc M).drop (nV*2),(cJ _ _).symm,by rw[bh,lM];omega⟩
 have lM2:M2.length=nD*2:=by have:=aY List.length hMM;rw[ae,lM,lM1] at this;omega
 have e1:(rc M++(rc B++Y)).drop (rc V).length=M2++rc B++Y:=by rw[hMM,lV,<-lM1,aM,gO rfl,aM]
 rw[e1] at r1
 have cB1:Cs w1 g (nJ*2) (rc B):=by
  have:=r1.cs (P:=rc A++rc V++M2) (X:=rc B) (Y:=Y) (by simp)
  rwa [ae,ae,lA,lV,lM2,show nA*2+nV*2+nD*2=nJ*2 by omega] at this
 obtain⟨w2,hrun2,r2,b2⟩:=i7 w1.drew 3 g nB (cap-nX) (some ⟨g,nJ*2,none⟩) nB (cap-nJ) (rc A++rc V) (rc B) (M2++rc B++Y) r1 (by rw[lB,show Nat.min nB nB=nB from gQ _]) (.inr ⟨g,nJ*2,rfl,cB1⟩) (by rw[ae,ae,lM2,lB];omega) (jk B)
 rw[ae,lA,lV,show nA*2+nV*2=nX*2 by omega] at hrun2
 have ly:((M2++rc B++Y).drop (rc B).length).length=nD*2+Y.length:=by rw[dc,ae,ae,lM2,lB];omega
 generalize (M2++rc B++Y).drop (rc B).length=Y2 at *;obtain⟨w3,hrun3,r3,b3⟩:=qG w2 0 g nD (cap-nT) (rc A++rc V++rc B) Y2 r2 (by rw[ly];omega)
 rw[ae,ae,lA,lV,lB,show nA*2+nV*2+nB*2=nT*2 by omega] at hrun3
 have bw2:But (λk=>k=g) w w2:=((But.ofBelow (S:=λk=>k=g) b0).trans b1 (λ_ _ h=>h)).trans ((But.drew (But.refl (λk=>k=g) w1)).trans b2 (λ_ _ h=>h)) (λ_ _ h=>h)
 have goal:∀w4,(w4=w3\/(w4=w2/\nD=0))->∃a' cap'',Ending.returned (.slice (some ⟨g,0,none⟩) nT cap)=.returned (.slice a' nT cap'')/\Vw w4 a' cap'' (A++V++B)/\New w (some ⟨g,0,none⟩) a'/\But (InA (some ⟨g,0,none⟩)) w w4:=by
  rintro w4 (rfl|⟨rfl,hD0⟩)
  . refine⟨_,cap,rfl,Vw.mk (Y:=rc (List.replicate nD Rn.zero)++Y2.drop (nD*2)) (by rw[il,il,<-aM];exact r3) ?_ (by unfold maxLen;omega) ?_,New.refl _ _,(bw2.trans b3 (λ_ _ h=>h)).mono (λk _ h=>⟨_,rfl,h.symm⟩)⟩
    . rw[ae,ae,<-hA,<-hB,<-hnV];omega
    . rw[ae,ae,<-hA,<-hB,<-hnV,ae,g9,be,dc,ly];omega
  . refine⟨_,cap,rfl,Vw.mk (Y:=Y2) (by rw[il,il];exact r2) ?_ (by unfold maxLen;omega) ?_,New.refl _ _,bw2.mono (λk _ h=>⟨_,rfl,h.symm⟩)⟩
    . rw[ae,ae,<-hA,<-hB,<-hnV];omega
    . rw[ae,ae,<-hA,<-hB,<-hnV,ly];omega
 have GG:=gZ goal;have z0:cap=nT->nD=0:=λe=>by omega
 clear goal r3 b3 b2 b1 ly r2 r1 cB1 hMM lM1 lM2 e1 hZ hD HZ HD hA hM hB hnV hV1 bw2;clear hS hJ hT hX lA lM lB lV h3 hg hV RA hne hl cB hW0 FF F2 F3 F4 F5 F6 F7 F8 F9;by_cases hct:cap=nT
 . have hD0:=z0 hct;have G2:=gZ (GG.o w2 (.inr ⟨rfl,hD0⟩));clear z0 GG;subst hct;subst hD0;rw[n7] at hrun1;rw[n6] at hrun2;have hcl0:(Builtin.clear_ #[169] 0 #[.slice (some ⟨g,0,none⟩) 0 0]).run Tryz.prog w2=.ok (.tuple #[]) w2:=by simp[Builtin.clear_,c9 Tryz.underlying169]
   clear hrun3;go_wp2;go_region
   all_goals
    go_wp2;go_ret;exact G2.o
 . have G2:=gZ (GG.o w3 (.inl rfl));clear z0 GG;go_wp2;go_region
   all_goals
    go_wp2;go_ret;exact G2.o
set_option maxRecDepth 20000 in
theorem tP(w:World)(a:Option Addr)(cap:Nat)(A M B:List Rn)(hR:Vw w a cap (A++M++B))(av:Option Addr)(cv:Nat)(V:List Rn)(hV:Vw w av cv V)(hne:∀x y,a=some x->av=some y->x.block≠y.block)(hl:A.length+M.length+B.length+V.length<=14000000000000)(hm0:M≠[])(hb0:0<B.length)(hroom:A.length+V.length+B.length<=cap)(hvm:M.length<V.length):
 Calls Tryz.prog 178 #[.slice a ((A.length+M.length+B.length:Nat)) cap,.int .i64 ((A.length:Nat):Int),.int .i64 ((A.length+M.length:Nat):Int),.slice av V.length cv] w λe w'=>
  ∃a' cap',e=.returned (.slice a' ((A.length+V.length+B.length:Nat)) cap')/\Vw w' a' cap' (A++V++B)/\New w a a'/\But (InA a) w w':=by
 have hcl:=hR.len;rw[ae,ae] at hcl;unfold maxLen at hcl;obtain⟨hc1,hc2⟩:=hcl;have hmp:0<M.length:=bM.2 hm0;rcases hR.cases with⟨_,_,h0⟩|⟨g,Y,rfl,hg,h1,h2,h3⟩
 . simp at h0;exact absurd h0.2.1 hm0
 rw[ae,ae] at h3;rw[il,il,aM,aM] at hg;have lA:=g9 A;have lM:=g9 M;have lB:=g9 B;have lV:=g9 V;have hVs:=hV.vs;have hV1:rc V=[]\/∃b o,av=some ⟨b,o,none⟩/\Cs w b o (rc V):=hVs.imp (λh=>by rw[h];rfl) id
 have avne:∀b o,av=some ⟨b,o,none⟩->b≠g:=λb o e e2=>hne ⟨g,0,none⟩ ⟨b,o,none⟩ rfl e e2.symm
 have RA:Vw w (some ⟨g,0,none⟩) cap A:=by
  rw[aM] at hR;rcases hR.front with h|h
  . exact h
  . cases h
 have cB:Cs w g ((A.length+M.length)*2) (rc B):=by
  have:=hg.cs (P:=rc A++rc M) (X:=rc B) (Y:=Y) (by simp)
  rwa [ae,lA,lM,<-gB] at this
 obtain⟨nA,hA⟩:∃m:Nat,m=A.length:=⟨_,rfl⟩;obtain⟨nM,hM⟩:∃m:Nat,m=M.length:=⟨_,rfl⟩;obtain⟨nB,hB⟩:∃m:Nat,m=B.length:=⟨_,rfl⟩;obtain⟨nV,hnV⟩:∃m:Nat,m=V.length:=⟨_,rfl⟩;rw[<-hA] at lA hl hc1 h3 cB ⊢;rw[<-hM] at lM hl hc1 h3 hmp cB ⊢;rw[<-hB] at lB hl hc1 h3 ⊢;rw[<-hnV] at lV hl ⊢;obtain⟨nS,hS⟩:∃m:Nat,m=nA+nM+nB:=⟨_,rfl⟩;obtain⟨nJ,hJ⟩:∃m:Nat,m=nA+nM:=⟨_,rfl⟩;obtain⟨nT,hT⟩:∃m:Nat,m=nA+nV+nB:=⟨_,rfl⟩;obtain⟨nX,hX⟩:∃m:Nat,m=nA+nV:=⟨_,rfl⟩;rw[<-hJ] at cB;rw[<-hS,<-hJ,<-hT];have l1:nA<=nJ:=by omega
 have l2:nJ<=nS:=by omega
 have l3:nS<=cap:=by omega
 have l4:¬nA=nJ:=by omega
 have l5:nT<=14000000000000:=by omega
 have l6:nS<=14000000000000:=by omega
 have l7:nX<=nT:=by omega
 have l8:¬cap=nA:=by omega
 have x1:(nA:Int)<=(nJ:Int):=by omega
 have x2:(nJ:Int)<=(nS:Int):=by omega
 have x3:(nA:Int)<=(nS:Int):=by omega
 have wX:IntKind.i64.wrap (nX:Int)=(nX:Int):=im (by omega) (by omega)
 have gl:=hg.lt;rw[<-hB] at hb0;have l9:¬nJ=nS:=by omega
 have l11:¬cap=nJ:=by omega
 have n5:nS-nJ=nB:=by omega
 have i1:(nA:Int)+(nV:Int)=(nX:Int):=by omega
 have i2:(nX:Int)+(nB:Int)=(nT:Int):=by omega
 have x5:(nX:Int)<=(nT:Int):=by omega
 have x6:(nA:Int)<=(nT:Int):=by omega
 have n6:nT-nX=nB:=by omega
 have wT:IntKind.i64.wrap (nT:Int)=(nT:Int):=im (by omega) (by omega)
 rw[<-hA,<-hB,<-hnV,<-hT] at hroom;rw[<-hM,<-hnV] at hvm;have lX:¬nX<=nJ:=by omega
 have xX:¬(nX:Int)<=(nJ:Int):=by omega
 have lXc:¬cap=nX:=by omega
 have n7:nT-nA=nV+nB:=by omega
 obtain⟨nZ,hZ⟩:∃m:Nat,m=nV+nB:=⟨_,rfl⟩;rw[<-hZ] at n7;have HZ:=gZ hZ;clear hZ;have FF:=gZ (And.intro hS (And.intro hJ (And.intro hT (And.intro hX (And.intro hA (And.intro hM (And.intro hB hnV)))))));have F2:=gZ (And.intro lA (And.intro lM (And.intro lB lV)));have F3:=gZ h3;have F4:=gZ hg;have F5:=gZ RA;have F6:=gZ hV;have F7:=gZ hne;have F8:=gZ cB;have F9:=gZ hl;clear hS hJ hT hX hA hM hB hnV lA lM lB lV h3 hg RA hV hne cB hl hVs hV1 avne hR hc1 h1 h2;go_enter Tryz.func178,Tryz.ntmps178;go_wp2_with fail
 go_quiet (fail)
 obtain⟨W0,hW0⟩:∃W0,w.drewN nq=W0:=⟨_,rfl⟩;have b0:Below w.heap.size w W0:=by rw[<-hW0];exact qe _ _
 have s0:W0.heap.size=w.heap.size:=by rw[<-hW0];rfl
 rw[hW0];obtain⟨hS,hJ,hT,hX,hA,hM,hB,hnV⟩:=FF.o;obtain⟨lA,lM,lB,lV⟩:=F2.o;have h3:=F3.o;have hg:=F4.o.keep b0;have RA:=F5.o.keep b0;have hV:=F6.o.keep b0;have hne:=F7.o;have cB:=F8.o.keep b0;have hl:=F9.o;have hZ:=HZ.o;have hv0:V≠[]:=λe=>by rw[e] at hnV;simp at hnV;omega
 rcases hV.cases with⟨_,_,h0⟩|⟨gv,Yv,rfl,hgv,v1,v2,v3⟩
 . exact absurd h0 hv0
 have hgg:g≠gv:=hne _ _ rfl rfl;have cV:Cs W0 gv 0 (rc V):=hgv.cs (P:=[]) (X:=rc V) (Y:=Yv) (by simp)
 have hov:=λoh lb cb=>nY W0 g gv oh 0 lb cb nV cv _ _ hg hgv hgg (by intro e;have:=aY List.length e;rw[ae,lV] at this;simp at this;omega)
 obtain⟨Q,R,hQ,lQ⟩:∃Q R,rc M++(rc B++Y)=Q++R/\Q.length=nV*2:=⟨(rc M++(rc B++Y)).take (nV*2),(rc M++(rc B++Y)).drop (nV*2),(cJ _ _).symm,by rw[bh,ae,ae,lM,lB];omega⟩
 have lR:nV*2+R.length=nM*2+nB*2+Y.length:=by have:=aY List.length hQ;rw[ae,ae,ae,lM,lB,lQ] at this;omega
 rw[hQ,<-aM] at hg;obtain⟨w1,hrun1,r1,b1⟩:=i7 W0.drew 3 g nB (cap-nX) (some ⟨g,nJ*2,none⟩) nB (cap-nJ) (rc A++Q) (rc B) R hg (by rw[lB,show Nat.min nB nB=nB from gQ _]) (.inr ⟨g,nJ*2,rfl,cB⟩) (by rw[lB];omega) (jk B)
 rw[ae,lA,lQ,show nA*2+nV*2=nX*2 by omega] at hrun1
 have b1':But (λk=>k=g) W0 w1:=(But.drew (But.refl _ W0)).trans b1 (λ_ _ h=>h)
 obtain⟨w2,hrun2,r2,b2⟩:=i7 w1 3 g nZ (cap-nA) (some ⟨gv,0,none⟩) nV cv (rc A) (rc V) (Q++rc B++R.drop (rc B).length) (by rw[<-aM,<-aM];exact r1) (by rw[lV,show Nat.min nV nZ=nV from cY (by omega)]) (.inr ⟨gv,0,rfl,cV.but b1' (show ¬gv=g from λe=>hgg e.symm)⟩) (by rw[ae,ae,lQ,lV];omega) (jk V)
 rw[lA] at hrun2
 have goal:∀w4,w4=w2->∃a' cap'',Ending.returned (.slice (some ⟨g,0,none⟩) nT cap)=.returned (.slice a' nT cap'')/\Vw w4 a' cap'' (A++V++B)/\New w (some ⟨g,0,none⟩) a'/\But (InA (some ⟨g,0,none⟩)) w w4:=by
  rintro w4 rfl;refine⟨_,cap,rfl,Vw.mk (Y:=R.drop (rc B).length) ?_ ?_ (by unfold maxLen;omega) ?_,New.refl _ _,(((But.ofBelow (S:=λk=>k=g) b0).trans b1' (λ_ _ h=>h)).trans b2 (λ_ _ h=>h)).mono (λk _ h=>⟨_,rfl,h.symm⟩)⟩
  . have e:(Q++rc B++R.drop (rc B).length).drop (rc V).length=rc B++R.drop (rc B).length:=by
     rw[lV,<-lQ,aM,gO rfl]
    rw[e,<-aM] at r2;rw[il,il];exact r2
  . rw[ae,ae,<-hA,<-hB,<-hnV];omega
  . rw[ae,ae,<-hA,<-hB,<-hnV,dc,lB];omega
 have GG:=gZ (goal w2 rfl);clear goal b1 b1' b2 r2 r1 hQ lQ lR cV hgv v1 v2 v3 hv0 hZ HZ hA hM hB hnV;clear hS hJ hT hX lA lM lB lV h3 hg hV RA hne hl cB hW0 FF F2 F3 F4 F5 F6 F7 F8 F9;go_wp2_with fail
 go_region
 all_goals
  go_wp2;go_ret;exact GG.o
theorem jR(w:World)(a:Option Addr)(cap:Nat)(A M B:List Rn)(hR:Vw w a cap (A++M++B))(av:Option Addr)(cv:Nat)(V:List Rn)(hV:Vw w av cv V)(hne:∀x y,a=some x->av=some y->x.block≠y.block)(hl:A.length+M.length+B.length+V.length<=14000000000000):
 Calls Tryz.prog 178 #[.slice a ((A.length+M.length+B.length:Nat)) cap,.int .i64 ((A.length:Nat):Int),.int .i64 ((A.length+M.length:Nat):Int),.slice av V.length cv] w λe w'=>
  ∃a' cap',e=.returned (.slice a' ((A.length+V.length+B.length:Nat)) cap')/\Vw w' a' cap' (A++V++B)/\New w a a'/\But (InA a) w w':=by
 by_cases hm0:M=[]
 . subst hm0;rw[bZ] at hR;have:=tJ w a cap A B hR av cv V hV hne (by simpa using hl)
   rw[bg,bY];exact this
 . by_cases hb0:B.length=0
   . by_cases hvm:V.length<M.length
     . exact ug w a cap A M B hR av cv V hV hne hl hm0 hb0 hvm
     . exact tY w a cap A M B hR av cv V hV hne hl hm0 hb0 (by omega)
   . by_cases hroom:cap<A.length+V.length+B.length
     . exact ua w a cap A M B hR av cv V hV hne hl hm0 (by omega) hroom
     . by_cases hvm:V.length<=M.length
       . exact uw w a cap A M B hR av cv V hV hne hl hm0 (by omega) (by omega) hvm
       . exact tP w a cap A M B hR av cv V hV hne hl hm0 (by omega) (by omega) (by omega)
end Go.Proofs.YtbdkogimlbnlmaaGreat.Q
