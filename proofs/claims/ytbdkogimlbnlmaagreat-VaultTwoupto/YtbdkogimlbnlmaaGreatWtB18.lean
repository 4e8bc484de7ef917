import Derived.Test.YtbdkogimlbnlmaaGreatWtB17
set_option linter.unusedVariables false
set_option linter.unusedSimpArgs false
set_option maxHeartbeats 8000000
set_option maxRecDepth 8000
namespace Go.Proofs.YtbdkogimlbnlmaaGreat.Q
open Go.RowKit Go.Shelf
attribute [local go_sem] Oper.semAt_some
theorem yG(n:Nat)(hc:n<=65536)(w:World):(Instr.makeSlice 35 (.int .i64 0) (.int .i64 (n:Int))).run Tryz.prog w=.ok (.slice (some ⟨w.heap.size,0,none⟩) 0 n) (w.alloc (.cells (vi (List.replicate n 0)).toArray 3)):=by
 obtain⟨i0,hi,hz0,hz1,hz2⟩:=dc mz;have hr:=run_make (P:=Tryz.prog) w 35 3 i0 (.int .i64 0) Tryz.underlying35 hi hz0 .i64 .i64 (0:Nat) n (by omega) (by omega) (by rw[hz2];omega) (by omega)
 simp only[c9,hz1,dR] at hr;have e:madeCells (Value.int .i64 0).cells n=(vi (List.replicate n 0)).toArray:=oO n;rw[e] at hr;exact hr
theorem jC(w:World)(a:Option Addr)(n cap:Nat)(l:List Int)(hI:Ir w a l)(hn:n=l.length)(hl:l.length<=65536):
 Calls Tryz.prog 87 #[.slice a n cap] w λe w'=>∃a' c',e=.returned (.slice a' n c')/\IOwn w w' a' c' l:=by
 have HI:=ig hI;have HN:=ig hn;rw[<-hn] at hl;have hmk:=yG n hl w;have O0:=ig (show IOwn w (w.alloc (.cells (vi (List.replicate n 0)).toArray 3)) (some ⟨w.heap.size,0,none⟩) n (l.take 0) from⟨Ig.mk (az w _) (by simp) (by unfold maxLen;omega) (by simp[vi]) (by simp[vi]),λx hx=>.inr (by cases hx;exact ai _),al _ _⟩)
 clear hI hn;go_enter Tryz.func87,Tryz.ntmps87;go_wp2_with fail
 go_loopw [3,4] (λs i wr=>∃(j:Nat)(a':Option Addr)(c':Nat),j<=n/\i=.int .i64 (j:Int)/\s=.slice a' j c'/\IOwn w wr a' c' (l.take j)) (λ_ i _=>n-(intOf i).toNat)
 case atStart=>exact⟨0,_,n,aF _,rfl,rfl,O0.o⟩
 case round=>
  clear O0;obtain⟨j,a',c',hj,rfl,rfl,hO⟩:=hrel;have O:=ig hO;clear hO;by_cases hlt:j<n
  . have hjl:j<l.length:=by rw[<-HN.o];exact hlt
    have hji:(j:Int)<(n:Int):=by omega
    obtain⟨b1,o1,rfl,cA⟩:=(HI.o.keep O.o.b).at hjl;have tl:(l.take j).length=j:=by rw[bi,<-HN.o];omega
    have SN:=ig (jt l 0 hjl);obtain⟨x,hx⟩:∃x,l.getD j 0=x:=⟨_,rfl⟩;rw[hx] at cA SN;have aw:=al wr (.cells #[.int .i64 x] 3);have nc:=iI wr (.int .i64 x) 3;have O1:=ig (O.o.keep aw);have R1:=ig O1.o.r;have HAW:=ig aw;clear hx aw;go_wp2_with (refine ji rfl _ _ rfl a' j c' (l.take j) (by simp[Act.eval]) tl.symm R1.o ⟨wr.heap.size,0,none⟩ 1 x (by simp[Act.eval]) nc (by rw[tl];omega) ?_;intro g c2 w2 hR hN hg hgl;have O2:=ig (O.o.step HAW.o hR hN hg);clear hR hN hg hgl)
    go_roundw
    case rel=>exact⟨j+1,_,c2,by omega,by go_num,rfl,by rw[SN.o];exact O2.o⟩
    case measure=>simp[intOf];omega
  . obtain rfl:j=n:=by omega
    go_wp2;go_ret;exact⟨a',c',rfl,by have o:=O.o;rwa [HN.o,cU] at o⟩
end Go.Proofs.YtbdkogimlbnlmaaGreat.Q
namespace Go.Proofs.YtbdkogimlbnlmaaGreat
open Go.RowKit
variable {P:List Pv}{C:List Value}{cap g i n rb s sz:Nat}{col:Nat->Nat}{D:Rd}{e:TypeId}{w w':World}
theorem Dt(w:World)(n r:Int)(h:Q.jL n r=false):Calls Tryz.prog 33 #[.int .i64 n,.int .i64 r] w λe w'=>e=.returned (.tuple #[.pointer none,.int .i64 1])/\w'=w:=by
 have RA:=ig (pC w r);unfold Q.jL at h;by_cases h1:n<1
 . have d1:decide (n<1)=true:=ay h1;clear h;go_enter Tryz.func33,Tryz.ntmps33;go_wp2_with fail
   go_ret2
   exact⟨rfl,rfl⟩
 . by_cases h2:65536<n
   . have d1:decide (n<1)=false:=ax h1;have d2:decide (65536<n)=true:=ay h2;clear h;go_enter Tryz.func33,Tryz.ntmps33;go_wp2_with fail
     go_ret2
     exact⟨rfl,rfl⟩
   . have d1:decide (n<1)=false:=ax h1;have d2:decide (65536<n)=false:=ax h2
     have h3:(decide (2<=r)&&decide (r<65536))=false:=by
      rw[ay (show 1<=n by omega),ay (show n<=65536 by omega)] at h
      simpa using h
     rw[h3] at RA;clear h h3;go_enter Tryz.func33,Tryz.ntmps33;go_wp2_with fail
     refine RA.o.mono ?_;rintro _ wq ⟨rfl,hwq⟩;rw[hwq];clear hwq;go_wp2_with fail
     go_ret2
     exact⟨rfl,rfl⟩
def Rd.Fresh(D:Rd)(r:Int)(i:Nat):Prop:=D.R=r/\D.C=List.replicate i 0/\D.L=List.replicate i false/\D.P=List.replicate i Pv.zero/\D.aA=none/\D.nA=0/\D.cA=0/\D.fl=0/\D.hush=false
theorem Rn.start(r:Int):Rn w (w.alloc (.cells #[.int .i64 r,.slice none 0 0,.slice none 0 0,.slice none 0 0,.slice none 0 0,.int .i64 0,.bool false] 99)) w.heap.size ⟨r,none,0,[],none,0,[],none,0,[],none,0,0,0,false⟩:=
 ⟨aH _ _,Q.Gw.nil _ _ _,Q.Gw.nil _ _ _,Q.Gw.nil _ _ _,λp hp=>absurd hp (bB),λp hp=>absurd hp (bB),ai _,New.none _ _,New.none _ _,New.none _ _,al _ _⟩
theorem qT{W:World}{v:Value}{t:TypeId}(h:W.heap[g]?=some (.cells #[v] t (0,0))):∀j u,[v][j]?=some u->W.cell? ((⟨g,0,none⟩:Addr).add j)=some u:=by
 intro j u hu;rw[Addr.add_mid,bH,au _ _ _ _ _ _ h,<-hu];simp
theorem zero_add{W:World}{g:Nat}{t:TypeId}(h:W.heap[g]?=some (.cells #[.int .i64 0,.int .i64 0,.slice none 0 0,.slice none 0 0,.int .i64 0] t (0,0))):∀j u,Pv.zero.cs.toList[j]?=some u->W.cell? ((⟨g,0,none⟩:Addr).add j)=some u:=by
 intro j u hu;rw[Addr.add_mid,bH,au _ _ _ _ _ _ h,<-hu];simp[Pv.zero,Pv.cs]
theorem Ai:∀u∈Pv.zero.cs.toList,u.oneCell'=true:=by
 intro u hu;simp[Pv.zero,Pv.cs] at hu;rcases hu with rfl|rfl|rfl<;>rfl
theorem qd{α:Type}(i:Nat)(x:α):List.replicate i x++[x]=List.replicate (i+1) x:=by rw[List.replicate_succ']
theorem AZ(w:World)(n:Nat)(r:Int)(h:Q.jL n r=true):Calls Tryz.prog 33 #[.int .i64 (n:Int),.int .i64 r] w λe w'=>∃(rb:Nat)(D:Rd),e=.returned (.tuple #[.pointer (some ⟨rb,0,none⟩),.int .i64 0])/\Rn w w' rb D/\D.Fresh r n:=by
 have RA:=ig (pC w r);unfold Q.jL at h;simp only[bQ,bM] at h;rw[ay (show 2<=r by omega),ay (show r<65536 by omega)] at RA
 have d1:decide ((n:Int)<1)=false:=ax (by omega)
 have d2:decide ((65536:Int)<(n:Int))=false:=ax (by omega)
 have h6:n<=65536:=by omega
 have S0:=ig (Rn.start (w:=w) r);clear h;go_enter Tryz.func33,Tryz.ntmps33;go_wp2_with fail
 refine RA.o.mono ?_;rintro _ wq ⟨rfl,hwq⟩;rw[hwq];clear hwq;go_wp2_with fail
 generalize (w.alloc (.cells #[.int .i64 r,.slice none 0 0,.slice none 0 0,.slice none 0 0,.slice none 0 0,.int .i64 0,.bool false] 99))=w1 at *;go_loopw [7] (λvi wx=>∃(i:Nat)(D:Rd),i<=n/\vi=.int .i64 (i:Int)/\Rn w wx w.heap.size D/\D.Fresh r i) (λvi _=>n-(intOf vi).toNat)
 case atStart=>exact⟨0,_,aF _,rfl,S0.o,rfl,rfl,rfl,rfl,rfl,rfl,rfl,rfl,rfl⟩
 case round=>
  clear S0;obtain⟨i,D,hi,rfl,hR,hF⟩:=hrel;have RR:=ig hR;have FF:=ig hF;have LC:D.C.length=i:=by rw[hF.2.1,be]
  have LL:D.L.length=i:=by rw[hF.2.2.1,be]
  have LP:D.P.length=i:=by rw[hF.2.2.2.1,be]
  have HLC:=ig LC;have HLL:=ig LL;have HLP:=ig LP;clear hR hF LC LL LP;by_cases hlt:i<n
  . have hii:(i:Int)<(n:Int):=by omega
    have hml:i+1<=maxLen:=by unfold maxLen;omega
    obtain⟨x0,x1,x2,x3,f1,f2,f3⟩:=RR.o.cells;rw[HLC.o] at x1;rw[HLL.o] at x2;rw[HLP.o] at x3;have rbl:=RR.o.lb;have A0:=ig (al wr (.cells #[Value.int .i64 0] 3));have X0:=ig (aH wr (.cells #[Value.int .i64 0] 3));have P0:=ig (RR.o.keep A0.o);have G0:=ig P0.o.cr;rw[HLC.o] at G0;go_wp2_with (at_builtin;refine jv Tryz.underlying35 zL rfl (by decide) rfl _ _ rfl D.aC i D.cC (Q.vi D.C) rfl G0.o ⟨wr.heap.size,0,none⟩ 1 [Value.int .i64 0] rfl rfl (qT X0.o) (λu hu=>by rw[aQ.1 hu];rfl) hml (by omega) ?_)
    intro gC cC w5 hG hN hB;have R1:=ig (P0.o.apC (x:=0) (by rw[HLC.o];exact hG) hN hB)
    rw[HLC.o] at R1;have b5:w5.heap[w.heap.size]?=some (.cells D.box 99 (0,0)):=hB.same P0.o.box (λ⟨y,hy,e⟩=>by obtain⟨cur,hc⟩:=P0.o.cr.blk hy;exact je P0.o.box hc (by decide) e.symm)
    have y1:w5.cell? ⟨w.heap.size,1,none⟩=some (.slice D.aC i D.cC):=by rw[au _ _ _ _ _ _ b5];show some (Value.slice D.aC D.C.length D.cC)=_;rw[HLC.o]
    have z1:w5.frozen? ⟨w.heap.size,1,none⟩=false:=by simp[World.frozen?,b5]
    clear hG hN hB b5 x0 x1 x2 x3 f1 f2 f3 P0 G0 X0 A0 rbl;go_upto_region 8 with fail
    generalize hw5:(w5.setCell ⟨w.heap.size,1,none⟩ (.slice (some ⟨gC,0,none⟩) (i+1) cC))=w6 at *;clear hw5 y1 z1;obtain⟨D1,hD1⟩:∃X,({D with aC:=some ⟨gC,0,none⟩,cC:=cC,C:=D.C++[0]}:Rd)=X:=⟨_,rfl⟩;rw[hD1] at R1;have HLC1:Hid (D1.C.length=i+1):=by show _=_;rw[<-hD1];show(D.C++[0]).length=_;rw[ae,HLC.o];rfl
    have HLL:Hid (D1.L.length=i):=by show _=_;rw[<-hD1];exact HLL.o
    have HLP:Hid (D1.P.length=i):=by show _=_;rw[<-hD1];exact HLP.o
    replace HLC:=HLC1
    have HD1:=ig hD1;clear hD1;obtain⟨x0,x1,x2,x3,f1,f2,f3⟩:=R1.o.cells;rw[HLC.o] at x1;rw[HLL.o] at x2;rw[HLP.o] at x3;have rbl:=R1.o.lb;have A0:=ig (al w6 (.cells #[Value.bool false] 4));have X0:=ig (aH w6 (.cells #[Value.bool false] 4));have P0:=ig (R1.o.keep A0.o);have G0:=ig P0.o.lr;rw[HLL.o] at G0;go_wp2_with (at_builtin;refine jv Tryz.underlying64 Bp rfl (by decide) rfl _ _ rfl D1.aL i D1.cL (vbl D1.L) rfl G0.o ⟨w6.heap.size,0,none⟩ 1 [Value.bool false] rfl rfl (qT X0.o) (λu hu=>by rw[aQ.1 hu];rfl) hml (by omega) ?_)
    intro gL cL w5 hG hN hB;have R2:=ig (P0.o.apL (x:=false) (by rw[HLL.o];exact hG) hN hB)
    rw[HLL.o] at R2;have b5:w5.heap[w.heap.size]?=some (.cells D1.box 99 (0,0)):=hB.same P0.o.box (λ⟨y,hy,e⟩=>by obtain⟨cur,hc⟩:=P0.o.lr.blk hy;exact je P0.o.box hc (by decide) e.symm)
    have y2:w5.cell? ⟨w.heap.size,2,none⟩=some (.slice D1.aL i D1.cL):=by rw[au _ _ _ _ _ _ b5];show some (Value.slice D1.aL D1.L.length D1.cL)=_;rw[HLL.o]
    have z2:w5.frozen? ⟨w.heap.size,2,none⟩=false:=by simp[World.frozen?,b5]
    clear hG hN hB b5 x0 x1 x2 x3 f1 f2 f3 P0 G0 X0 A0 rbl;go_upto_region 9 with fail
    generalize hw5:(w5.setCell ⟨w.heap.size,2,none⟩ (.slice (some ⟨gL,0,none⟩) (i+1) cL))=w7 at *;clear hw5 y2 z2;obtain⟨D2,hD2⟩:∃X,({D1 with aL:=some ⟨gL,0,none⟩,cL:=cL,L:=D1.L++[false]}:Rd)=X:=⟨_,rfl⟩;rw[hD2] at R2;have HLC:Hid (D2.C.length=i+1):=by show _=_;rw[<-hD2];exact HLC.o
    have HLL2:Hid (D2.L.length=i+1):=by show _=_;rw[<-hD2];show(D1.L++[false]).length=_;rw[ae,HLL.o];rfl
    have HLP:Hid (D2.P.length=i):=by show _=_;rw[<-hD2];exact HLP.o
    replace HLL:=HLL2
    have HD2:=ig hD2;clear hD2;obtain⟨x0,x1,x2,x3,f1,f2,f3⟩:=R2.o.cells;rw[HLC.o] at x1;rw[HLL.o] at x2;rw[HLP.o] at x3;have rbl:=R2.o.lb;have A0:=ig (al w7 (.cells #[.int .i64 0,.int .i64 0,.slice none 0 0,.slice none 0 0,.int .i64 0] 31));have X0:=ig (aH w7 (.cells #[.int .i64 0,.int .i64 0,.slice none 0 0,.slice none 0 0,.int .i64 0] 31));have P0:=ig (R2.o.keep A0.o);have G0:=ig P0.o.pr;rw[HLP.o] at G0;go_wp2_with (at_builtin;refine jv Tryz.underlying53 kO rfl (by decide) rfl _ _ rfl D2.aP i D2.cP (vpg D2.P) rfl G0.o ⟨w7.heap.size,0,none⟩ 1 Pv.zero.cs.toList rfl rfl (zero_add X0.o) Ai hml (by omega) ?_)
    intro gP cP w5 hG hN hB;have R3:=ig (P0.o.apP (x:=Pv.zero) (Pn.zero _ _) (.inr rfl) (by rw[HLP.o];exact hG) hN hB)
    rw[HLP.o] at R3;have b5:w5.heap[w.heap.size]?=some (.cells D2.box 99 (0,0)):=hB.same P0.o.box (λ⟨y,hy,e⟩=>by obtain⟨cur,hc⟩:=P0.o.pr.blk hy;exact je P0.o.box hc (by decide) e.symm)
    have y3:w5.cell? ⟨w.heap.size,3,none⟩=some (.slice D2.aP i D2.cP):=by rw[au _ _ _ _ _ _ b5];show some (Value.slice D2.aP D2.P.length D2.cP)=_;rw[HLP.o]
    have z3:w5.frozen? ⟨w.heap.size,3,none⟩=false:=by simp[World.frozen?,b5]
    clear hG hN hB b5 x0 x1 x2 x3 f1 f2 f3 P0 G0 X0 A0 rbl;go_upto_region 6 with fail
    generalize hw5:(w5.setCell ⟨w.heap.size,3,none⟩ (.slice (some ⟨gP,0,none⟩) (i+1) cP))=w8 at *;clear hw5 y3 z3;obtain⟨D3,hD3⟩:∃X,({D2 with aP:=some ⟨gP,0,none⟩,cP:=cP,P:=D2.P++[Pv.zero]}:Rd)=X:=⟨_,rfl⟩;rw[hD3] at R3
    have F3:Hid (D3.Fresh r (i+1)):=by
     show Rd.Fresh _ _ _;obtain⟨q1,q2,q3,q4,q5,q6,q7,q8,q9⟩:=FF.o;rw[<-hD3,<-HD2.o,<-HD1.o];refine⟨q1,?_,?_,?_,q5,q6,q7,q8,q9⟩
     . show D.C++[0]=_;rw[q2];exact qd i 0
     . show D.L++[false]=_;rw[q3];exact qd i false
     . show D.P++[Pv.zero]=_;rw[q4];exact qd i Pv.zero
    clear hD3;go_wp2_with fail
    go_roundw
    case rel=>exact⟨i+1,D3,by omega,by go_num,R3.o,F3.o⟩
    case measure=>simp[intOf];omega
  . obtain rfl:i=n:=by omega
    go_wp2_with fail
    go_ret2
    exact⟨w.heap.size,D,rfl,RR.o,FF.o⟩
theorem Q.Gw.setc(h:Q.Gw e sz w (some ⟨g,0,none⟩) cap n C)(k:Nat)(v:Value):Q.Gw e sz (w.setCell ⟨g,k,none⟩ v) (some ⟨g,0,none⟩) cap n (C.set k v):=by
 have hl:=h.length;rcases h.cases with⟨h0,_⟩|⟨g',cur,h0,hg,h1,h2,h3,h4⟩
 . cases h0
 . cases h0;refine Q.Gw.mk (by rw[aS];exact hl) (aM _ _ _ _ _ _ hg) h1 h2 (by simpa using h3) ?_
   rw[dW,fH,h4]
theorem Q.Gw.free(h:Q.Gw e sz w (some ⟨g,0,none⟩) cap n C)(k:Nat):w.frozen? ⟨g,k,none⟩=false:=by
 rcases h.cases with⟨h0,_⟩|⟨g',cur,h0,hg,_⟩
 . cases h0
 . cases h0;exact bq _ _ _ _ _ hg
theorem CW(l:List Bool)(k:Nat)(x:Bool):(vbl l).set k (.bool x)=vbl (l.set k x):=by simp[vbl,List.map_set]
theorem Q.Gw.there5(h:Q.Gw 31 5 w (some ⟨g,0,none⟩) cap P.length (vpg P)){k:Nat}(hk:k<P.length):w.there g (k*5) 5:=by
 rcases h.cases with⟨h0,_⟩|⟨g',cur,h0,hg,h1,h2,h3,h4⟩
 . cases h0
 . cases h0;intro j hj;have hle:P.length*5<=cap*5:=dB _ h1;constructor
   . rw[au _ _ _ _ _ _ hg];simp[show k*5+j<cur.size by omega]
   . exact bq _ _ _ _ _ hg
theorem Q.Gw.setp(h:Q.Gw 31 5 w (some ⟨g,0,none⟩) cap P.length (vpg P))(k:Nat)(v:Pv):Q.Gw 31 5 (w.setCells g (k*5) v.cs.toList) (some ⟨g,0,none⟩) cap (P.set k v).length (vpg (P.set k v)):=by
 rcases h.cases with⟨h0,_⟩|⟨g',cur,h0,hg,h1,h2,h3,h4⟩
 . cases h0
 . cases h0;obtain⟨cur',k1,k2,k3⟩:=kP g 31 v.cs.toList w (k*5) cur hg;have hvl:v.cs.toList.length=5:=rfl;refine Q.Gw.mk (m7 _) k1 (by rw[aS];exact h1) h2 (by rw[k2];exact h3) ?_
   rw[aS];apply dS;intro i;have hle:P.length*5<=cap*5:=dB _ h1;by_cases hi:i<P.length*5
   . have ho:(vpg P)[i]?=cur[i]?:=by rw[<-h4,cw,if_pos hi];simp
     have hr:i/5<P.length:=by omega
     have hsp:i=i/5*5+i%5:=by omega
     have hmod:i%5<5:=fu _ (by decide)
     rw[cw,if_pos hi,eV,k3 i (by omega),hvl]
     have hR:(vpg (P.set k v))[i]?=((P.set k v).getD (i/5) Pv.zero).cs.toList[i%5]?:=by
      conv=>lhs;rw[hsp]
      exact mu (P.set k v) (i/5) (i%5) (by rw[aS];exact hr) hmod
     have hO:(vpg P)[i]?=(P.getD (i/5) Pv.zero).cs.toList[i%5]?:=by
      conv=>lhs;rw[hsp]
      exact mu P (i/5) (i%5) hr hmod
     rw[hR];by_cases hin:k*5<=i/\i<k*5+5
     . have e:i/5=k:=by omega
       rw[if_pos hin,e,show i-k*5=i%5 by omega]
       simp[show k<P.length by omega]
     . have e:¬k=i/5:=by omega
       rw[if_neg hin,<-ho,hO];simp[bZ e]
   . rw[cw,if_neg hi,dz (by rw[m7,aS];omega)]
def nmc(x:Int×Pv):List Value:=.int .i64 x.1::x.2.cs.toList
def nmg(L:List (Int×Pv)):List (Int×Pg):=L.map λx=>(x.1,x.2.pg)
def jz(a:Option Addr)(k:Nat):Bool:=match a with
 |none=>false
 |some x=>decide (x.block=k)
theorem iC{a:Option Addr}{k:Nat}:jz a k=true↔∃x,a=some x/\x.block=k:=by
 cases a with
 |none=>simp[jz]
 |some x=>simp[jz]
def kR(w wx:World)(rb:Nat)(D:Rd)(k:Nat):Nat:=if k=rb then 1 else if jz D.aC k=true then 2 else if jz D.aL k=true then 3 else if jz D.aP k=true then 4 else if w.heap.size<=k/\k<wx.heap.size then 6 else 0
theorem Rn.rq{wx:World}(h:Rn w wx rb D)(hL:D.L.length=D.C.length)(hP:D.P.length=D.C.length)(h6:D.C.length<=65536):Rq wx rb D (kR w wx rb D)/\∀k,kR w wx rb D k≠0->w.heap.size<=k:=by
 have nrb:∀{t:TypeId}{k:Nat}{cs:Array Value},wx.heap[k]?=some (.cells cs t (0,0))->t≠99->k≠rb:=λhk ht=>je hk h.box ht
 have nr:∀{t e:TypeId}{sz k:Nat}{cs:Array Value}{a:Option Addr}{cap n:Nat}{C:List Value},Q.Gw e sz wx a cap n C->wx.heap[k]?=some (.cells cs t (0,0))->t≠e->¬jz a k=true:=λhg hk ht e=>by
  obtain⟨x,hx,e⟩:=iC.1 e;obtain⟨cur,hc⟩:=hg.blk hx;exact je hk hc ht e.symm
 have six:∀{t:TypeId}{k:Nat}{cs:Array Value},wx.heap[k]?=some (.cells cs t (0,0))->t≠99->t≠3->t≠4->t≠31->w.heap.size<=k->kR w wx rb D k=6:=λhk h1 h2 h3 h4 h5=>by
  unfold kR;rw[if_neg (nrb hk h1),if_neg (nr h.cr hk h2),if_neg (nr h.lr hk h3),if_neg (nr h.pr hk h4),if_pos ⟨h5,(af.1 hk).1⟩]
 have low:∀k,kR w wx rb D k≠0->w.heap.size<=k/\k<wx.heap.size:=λk hk=>by
  unfold kR at hk;by_cases h1:k=rb
  . rw[h1];exact⟨h.nb,h.lb⟩
  . rw[if_neg h1] at hk;by_cases h2:jz D.aC k=true
    . obtain⟨x,hx,e⟩:=iC.1 h2;rw[<-e];exact⟨iG h.nC hx,h.cr.lt hx⟩
    . rw[if_neg h2] at hk;by_cases h3:jz D.aL k=true
      . obtain⟨x,hx,e⟩:=iC.1 h3;rw[<-e];exact⟨iG h.nl hx,h.lr.lt hx⟩
      . rw[if_neg h3] at hk;by_cases h4:jz D.aP k=true
        . obtain⟨x,hx,e⟩:=iC.1 h4;rw[<-e];exact⟨iG h.np hx,h.pr.lt hx⟩
        . rw[if_neg h4] at hk;by_cases h5:w.heap.size<=k/\k<wx.heap.size
          . exact h5
          . rw[if_neg h5] at hk;exact absurd rfl hk
 have pj:∀{a:Option Addr}{c:Nat}{L:List Iv},Jw wx a c L->New w none a->∀x,a=some x->¬ ¬(kR w wx rb D x.block=6):=λhj hn x hx e=>by
  rcases hj.cases with⟨h0,_⟩|⟨g,cur,h0,hg,_⟩
  . rw[h0] at hx;cases hx
  . rw[h0] at hx;cases hx;exact e (six hg (by decide) (by decide) (by decide) (by decide) (iG hn h0))
 have pr:∀{a:Option Addr}{c:Nat}{l:List Nat},Rw wx a c l->New w none a->∀x,a=some x->¬ ¬(kR w wx rb D x.block=6):=λhr hn x hx e=>by
  rcases hr.cases with⟨h0,_⟩|⟨g,cur,h0,hg,_⟩
  . rw[h0] at hx;cases hx
  . rw[h0] at hx;cases hx;exact e (six hg (by decide) (by decide) (by decide) (by decide) (iG hn h0))
 refine⟨⟨h.box,h.cr,h.lr,h.pr,λp hp v hv=>?_,h.ps,if_pos rfl,λx hx=>?_,λx hx=>?_,λx hx=>?_,λk hk=>(low k hk).2,hL,hP,h6⟩,λk hk=>(low k hk).1⟩
 . have q:=h.pn p hp;exact Pn.pi (v:=w) ⟨q.it.but hv (pj q.it q.itn),q.itn,q.d.but hv (pr q.d q.dn),q.dn,λt ht=>⟨(q.fr t ht).1.but hv (pr (q.fr t ht).1 (q.fr t ht).2.1),(q.fr t ht).2⟩,q.dist,q.d8,q.ns,q.nk,q.nl,q.nn⟩ (aO (jY (h.ps p hp)).2 (by decide))
 . obtain⟨cur,hc⟩:=h.cr.blk hx;unfold kR;rw[if_neg (nrb hc (by decide)),if_pos (iC.2 ⟨x,hx,rfl⟩)]
 . obtain⟨cur,hc⟩:=h.lr.blk hx;unfold kR;rw[if_neg (nrb hc (by decide)),if_neg (nr h.cr hc (by decide)),if_pos (iC.2 ⟨x,hx,rfl⟩)]
 . obtain⟨cur,hc⟩:=h.pr.blk hx;unfold kR;rw[if_neg (nrb hc (by decide)),if_neg (nr h.cr hc (by decide)),if_neg (nr h.lr hc (by decide)),if_pos (iC.2 ⟨x,hx,rfl⟩)]
def Pgs(w:World)(a:Option Addr)(P:List Pv):Prop:=∀i,i<P.length->∃g off,a=some ⟨g,off,none⟩/\∀k u,k<5->(P.getD i Pv.zero).cs.toList[k]?=some u->w.cell? ⟨g,off+i*5+k,none⟩=some u
theorem xQ(n:Nat)(hc:n<=65536)(w:World):(Instr.makeSlice 53 (.int .i64 0) (.int .i64 (n:Int))).run Tryz.prog w=.ok (.slice (some ⟨w.heap.size,0,none⟩) 0 n) (w.alloc (.cells (madeCells Pv.zero.cs (n*5)) 31)):=by
 obtain⟨i0,hi,hz0,hz1,hz2⟩:=dc kO;have hr:=run_make (P:=Tryz.prog) w 53 31 i0 (.agg Pv.zero.cs) Tryz.underlying53 hi hz0 .i64 .i64 (0:Nat) n (by omega) (by omega) (by rw[hz2];omega) (by omega)
 simp only[c9,hz1] at hr;exact hr
theorem Az(w:World)(n:Nat)(hn:n<=65536):Q.Gw 31 5 (w.alloc (.cells (madeCells Pv.zero.cs (n*5)) 31)) (some ⟨w.heap.size,0,none⟩) n 0 (vpg []):=
 Q.Gw.mk rfl (aH _ _) (aF _) (by unfold maxLen;omega) (fT _ _) (by simp[vpg])
theorem jr(w:World)(a:Option Addr)(n cap:Nat)(L:List Pv)(hP:Pgs w a L)(hn:n=L.length)(hl:L.length<=65536):
 Calls Tryz.prog 102 #[.slice a n cap] w λe w'=>∃a' c',e=.returned (.slice a' n c')/\Q.Gw 31 5 w' a' c' n (vpg L)/\New w none a'/\Below w.heap.size w w':=by
 have HP:=ig hP;have HN:=ig hn;rw[<-hn] at hl;have hmk:=xQ n hl w;have G0:=ig (Az w n hl);have B0:=ig (al w (.cells (madeCells Pv.zero.cs (n*5)) 31));clear hP hn;generalize (w.alloc (.cells (madeCells Pv.zero.cs (n*5)) 31))=w1 at *;go_enter Tryz.func102,Tryz.ntmps102;go_wp2_with fail
 clear hmk;go_loopw [3,4] (λvo vi wx=>∃(i:Nat)(a':Option Addr)(c':Nat),i<=n/\vo=.slice a' i c'/\vi=.int .i64 (i:Int)/\Q.Gw 31 5 wx a' c' i (vpg (L.take i))/\New w none a'/\Below w.heap.size w wx) (λ_ vi _=>n-(intOf vi).toNat)
 case atStart=>exact⟨0,some ⟨w.heap.size,0,none⟩,n,aF _,rfl,rfl,G0.o,λx hx=>.inr (by cases hx;exact ai _),B0.o⟩
 case round=>
  clear G0 B0;obtain⟨i,a',c',hi,rfl,rfl,hG,hNw,hb⟩:=hrel;have GG:=ig hG;have NN:=ig hNw;have BB:=ig hb;clear hG hNw hb;by_cases hlt:i<n
  . have hii:(i:Int)<(n:Int):=by omega
    have hiL:i<L.length:=by rw[<-HN.o];exact hlt
    obtain⟨g,off,rfl,hc⟩:=HP.o i hiL;have cW:∀k u,k<5->(L.getD i Pv.zero).cs.toList[k]?=some u->wr.cell? ⟨g,off+i*5+k,none⟩=some u:=λk u hk hu=>(BB.o.cell (p:=⟨g,off+i*5+k,none⟩) (block_lt_of_cell (hc k u hk hu))).trans (hc k u hk hu)
    have SN:Hid (vpg (L.take i)++(L.getD i Pv.zero).cs.toList=vpg (L.take (i+1))):=by
     show _=_;rw[uj,dQ hiL];simp[hiL]
    obtain⟨q,hq⟩:∃q,L.getD i Pv.zero=q:=⟨_,rfl⟩;simp only[hq] at cW SN;clear hq hc;have y0:=cW 0 _ (by decide) rfl
    have y1:=cW 1 _ (by decide) rfl
    have y2:=cW 2 _ (by decide) rfl
    have y3:=cW 3 _ (by decide) rfl
    have y4:=cW 4 _ (by decide) rfl
    rw[cE] at y0;have gl:g<wr.heap.size:=block_lt_of_cell y0;have A0:=ig (al wr (.cells q.cs 31));have X0:=ig (aH wr (.cells q.cs 31));have G1:=ig (GG.o.keep A0.o);have hml:i+1<=maxLen:=by unfold maxLen;omega
    have XC:Hid (∀j u,q.cs.toList[j]?=some u->(wr.alloc (.cells q.cs 31)).cell? ((⟨wr.heap.size,0,none⟩:Addr).add j)=some u):=λj u hu=>by
     rw[Addr.add_mid,bH,au _ _ _ _ _ _ X0.o,<-hu];simp
    have ON:Hid (∀u∈q.cs.toList,u.oneCell'=true):=by
     intro u hu;simp[Pv.cs] at hu;rcases hu with rfl|rfl|rfl|rfl|rfl<;>rfl
    clear cW X0;simp only[Pv.cs] at A0 G1 XC;go_wp2_with (at_builtin;refine jv Tryz.underlying53 kO rfl (by decide) rfl _ _ rfl a' i c' (vpg (L.take i)) rfl G1.o ⟨wr.heap.size,0,none⟩ 1 q.cs.toList rfl rfl XC.o ON.o hml (by omega) ?_)
    intro g2 c2 w5 hG hNw hB;have B5:Hid (Below w.heap.size w w5):=((But.ofBelow (S:=Q.InA a') (bt BB.o A0.o)).trans hB (λ_ _ e=>e)).below (λk hk ⟨x,hx,e⟩=>by have:=iG NN.o hx;omega)
    have N5:=ig (nj NN.o hNw (bt BB.o A0.o).size);have G5:=ig hG;clear hG hNw hB G1 A0 XC ON y0 y1 y2 y3 y4 gl;rw[SN.o] at G5;go_wp2_with fail
    go_roundw
    case rel=>exact⟨i+1,some ⟨g2,0,none⟩,c2,by omega,rfl,by go_num,G5.o,N5.o,B5.o⟩
    case measure=>simp[intOf];omega
  . obtain rfl:i=n:=by omega
    have GE:Hid (Q.Gw 31 5 wr a' c' i (vpg L)):=by
     have k:=GG.o;rw[df (by rw[<-HN.o];exact ai _)] at k
     exact k
    go_wp2_with fail
    go_ret;exact⟨a',c',rfl,GE.o,NN.o,BB.o⟩
theorem lv{ts te:TypeId}{sz bs:Nat}{z:Value}(hu:Tryz.prog.underlying ts=some (.slice te))(hinfo:(Tryz.prog.info? te).map (λi=>(i.zero,i.size,i.bytes))=some (some z,sz,bs))(hz:z.cells.size=sz)(h0:0<sz){w:World}{ops:Array Oper}{o:Oper}{a:Act}{K:Act->World->Prop}{Q':Exit->Act->World->Prop}{E:Prop}(hgd:o.guard=none)(s x:Operand)
 (ho:o.op=.call {callee:=.builtin .append,args:=#[s,x],argTypes:=#[ts,ts]}) (ao:Option Addr) (n cap:Nat) (C:List Value) (hs:a.eval s=.slice ao n cap) (hR:Q.Gw te sz w ao cap n C)
 (ad:Addr) (c:Nat) (xs:List Value) (hx:a.eval x=.slice (some ad) 1 c) (hl:xs.length=1*sz) (hc:∀j u,xs[j]?=some u->w.cell? (ad.add j)=some u) (h1:∀u∈xs,u.oneCell'=true) (hm:n+1<=maxLen) (hlen:(n+1)*bs<=140737488355328)
 (h:∀g cap' w',Q.Gw te sz w' (some ⟨g,0,none⟩) cap' (n+1) (C++xs)->New w ao (some ⟨g,0,none⟩)->But (Q.InA ao) w w'->K (a.put o.dst (.slice (some ⟨g,0,none⟩) (n+1) cap')) w'):
 if Region.wanted o (yielded ops a.tmps)=true then Oper.wp Tryz.prog o a w K Q' else E:=by
 have hw:Region.wanted o (yielded ops a.tmps)=true:=by simp[Region.wanted,hgd]
 rw[if_pos hw];obtain⟨g,cap',w',hr,k1,k2,k3⟩:=pk hu hinfo hz h0 w o.type ao n cap C hR ad c xs hl hc h1 hm hlen;unfold Oper.wp execOp;simp only[ho,resolve,invoke,builtin,dt,du,bO,cJ,bC,cZ,hs,hx,hr];exact h g cap' w' k1 k2 k3
theorem oR(hg:1<=col g/\col g<=5)(hB:But (λk=>k=g) w w'):Vf w col w' col:=⟨hB.mono (λk _ e=>by rw[e];exact hg),λ_ _=>rfl⟩
theorem Rq.setC(h:Rq w rb D col)(hg:D.aC=some ⟨g,0,none⟩)(k:Nat)(x:Int):
 Rq (w.setCell ⟨g,k,none⟩ (.int .i64 x)) rb {D with C:=D.C.set k x} col/\Vf w col (w.setCell ⟨g,k,none⟩ (.int .i64 x)) col:=by
 have hc:col g=2:=h.cc _ hg;have bs:But (λk=>k=g) w (w.setCell ⟨g,k,none⟩ (.int .i64 x)):=(But.refl (λk=>k=g) w).setCell (p:=⟨g,k,none⟩) (λ_=>rfl) _
 have ne:∀{j c:Nat},col j=c->c≠2->¬j=g:=λe n e2=>n (by rw[<-e,e2,hc])
 have hr:=h.cr;rw[hg] at hr;refine⟨⟨?_,?_,h.lr.but bs (λy hy=>ne (h.cl y hy) (by decide)),h.pr.but bs (λy hy=>ne (h.cp y hy) (by decide)),λp hp=>(h.pz p hp).but bs (λk _ e=>ne e (by decide)),h.ps,h.cb,h.cc,h.cl,h.cp,λj hj=>aZ (h.lt j hj) bs.size,?_,?_,?_⟩,oR (by omega) bs⟩
 . rw[bs.same h.box (ne h.cb (by decide))];unfold Rd.box;rw[aS]
 . show Q.Ig _ D.aC _ _;rw[hg];exact hr.set k x
 . show D.L.length=(D.C.set k x).length;rw[aS];exact h.nL
 . show D.P.length=(D.C.set k x).length;rw[aS];exact h.nP
 . show(D.C.set k x).length<=_;rw[aS];exact h.n6
theorem Rq.setL(h:Rq w rb D col)(hg:D.aL=some ⟨g,0,none⟩)(k:Nat)(x:Bool):
 Rq (w.setCell ⟨g,k,none⟩ (.bool x)) rb {D with L:=D.L.set k x} col/\Vf w col (w.setCell ⟨g,k,none⟩ (.bool x)) col:=by
 have hc:col g=3:=h.cl _ hg;have bs:But (λk=>k=g) w (w.setCell ⟨g,k,none⟩ (.bool x)):=(But.refl (λk=>k=g) w).setCell (p:=⟨g,k,none⟩) (λ_=>rfl) _
 have ne:∀{j c:Nat},col j=c->c≠3->¬j=g:=λe n e2=>n (by rw[<-e,e2,hc])
 have hr:=h.lr;rw[hg] at hr;refine⟨⟨?_,h.cr.but bs (λy hy=>ne (h.cc y hy) (by decide)),?_,h.pr.but bs (λy hy=>ne (h.cp y hy) (by decide)),λp hp=>(h.pz p hp).but bs (λk _ e=>ne e (by decide)),h.ps,h.cb,h.cc,h.cl,h.cp,λj hj=>aZ (h.lt j hj) bs.size,?_,h.nP,h.n6⟩,oR (by omega) bs⟩
 . rw[bs.same h.box (ne h.cb (by decide))];unfold Rd.box;rw[aS]
 . show Q.Gw _ _ _ D.aL _ (D.L.set k x).length _;rw[hg,aS,<-CW];exact hr.setc k _
 . show(D.L.set k x).length=D.C.length;rw[aS];exact h.nL
theorem Rq.setP(h:Rq w rb D col)(hg:D.aP=some ⟨g,0,none⟩)(k:Nat)(x:Pv)(hx:Pz (λk=>col k=6) w x)(hxs:x.pg.check=0\/x=Pv.zero):
 Rq (w.setCells g (k*5) x.cs.toList) rb {D with P:=D.P.set k x} col/\Vf w col (w.setCells g (k*5) x.cs.toList) col:=by
 have hc:col g=4:=h.cp _ hg;have bs:=i8 g x.cs.toList w (k*5);have ne:∀{j c:Nat},col j=c->c≠4->¬j=g:=λe n e2=>n (by rw[<-e,e2,hc])
 have hr:=h.pr;rw[hg] at hr;refine⟨⟨?_,h.cr.but bs (λy hy=>ne (h.cc y hy) (by decide)),h.lr.but bs (λy hy=>ne (h.cl y hy) (by decide)),?_,λp hp=>?_,λp hp=>?_,h.cb,h.cc,h.cl,h.cp,λj hj=>aZ (h.lt j hj) bs.size,h.nL,?_,h.n6⟩,oR (by omega) bs⟩
 . rw[bs.same h.box (ne h.cb (by decide))];unfold Rd.box;rw[aS]
 . show Q.Gw _ _ _ D.aP _ (D.P.set k x).length _;rw[hg];exact hr.setp k x
 . rcases fB hp with hp|rfl
   . exact(h.pz p hp).but bs (λk _ e=>ne e (by decide))
   . exact hx.but bs (λk _ e=>ne e (by decide))
 . rcases fB hp with hp|rfl
   . exact h.ps p hp
   . exact hxs
 . show(D.P.set k x).length=D.C.length;rw[aS];exact h.nP
theorem Rq.page(h:Rq w rb D col)(hb:Below w.heap.size w w'):Rq w' rb D (ip col w w' 6)/\Vf w col w' (ip col w w' 6):=by
 have k:=h.keep hb;have lt:=h.lt;have po:∀{j c:Nat},col j=c->c≠0->ip col w w' 6 j=c:=λ{j c} e hc=>by rw[iR (lt j (by rw[e];exact hc)),e]
 refine⟨⟨k.box,k.cr,k.lr,k.pr,λp hp=>(k.pz p hp).mono (λj hj e=>po e (by decide)),k.ps,po h.cb (by decide),λx hx=>po (h.cc x hx) (by decide),λx hx=>po (h.cl x hx) (by decide),λx hx=>po (h.cp x hx) (by decide),λj hj=>ke hb.size hj,k.nL,k.nP,k.n6⟩,But.ofBelow hb,λj hj=>iR hj⟩
def Rd.put(D:Rd)(z:Int)(c:Int):Rd:={D with C:=D.C.set (z-1).toNat c}
def Rd.inc(D:Rd)(z:Int):Int×Rd:=if 0<D.count z then (if D.R<=D.count z then (13,D) else (0,D.put z (D.count z+1))) else (15,D)
theorem tK(w:World)(rb:Nat)(D:Rd)(col:Nat->Nat)(h:Rq w rb D col)(z:Int)(hR:D.R<=65536):
 Calls Tryz.prog 109 #[.pointer (some ⟨rb,0,none⟩),.int .i64 z] w λe w'=>e=.returned (.int .i64 (D.inc z).1)/\Rq w' rb (D.inc z).2 col/\Vf w col w' col:=by
 have HQ:=ig h;obtain⟨c0,c1,c2,c3,c6⟩:=h.cells;have TH:=ig (jS w rb D col h z);unfold Rd.inc;by_cases h0:0<D.count z
 . rw[if_pos h0];rw[ay h0] at TH
   have hh:D.has z=true:=by
    unfold Rd.count at h0;split at h0
    . assumption
    . omega
   have hc:D.count z=D.C.getD (z-1).toNat 0:=by unfold Rd.count;rw[if_pos hh]
   obtain⟨h1,h2⟩:=Rd.has_iff.1 hh;obtain⟨i,hi⟩:∃i:Nat,z=(i:Int)+1:=⟨(z-1).toNat,by omega⟩
   subst hi;have hi:i<D.C.length:=by omega
   obtain⟨g,e,cA⟩:=h.cAt hi;have ez:((i:Int)+1-1).toNat=i:=by omega
   have EZ:=ig ez;rw[ez] at hc;rw[<-hc] at cA
   have fA:w.frozen? ⟨g,i,none⟩=false:=by
    have k:=h.cr;rw[e] at k;exact Q.Gw.free k i
   rw[e] at c1;have HE:=ig e;have hs:(i:Int)+1-1=(i:Int):=by omega
   have hii:(i:Int)<(D.C.length:Int):=by omega
   have h6:=h.n6;by_cases hr:D.R<=D.count ((i:Int)+1)
   . rw[if_pos hr];have d1:decide (D.R<=D.count ((i:Int)+1))=true:=ay hr;clear h hc hh ez e hR h0 h1 h2 hr;generalize D.C.length=m at *;generalize D.count ((i:Int)+1)=x at *;go_enter Tryz.func109,Tryz.ntmps109;go_wp2_with fail
     refine TH.o.mono ?_;rintro _ wq ⟨rfl,hwq⟩;rw[hwq];clear hwq;go_wp2_with fail
     go_quiet (fail)
     go_wp2_with fail
     go_ret;exact⟨rfl,HQ.o.keep (drN _ _),Vf.keep (drN _ _)⟩
   . rw[if_neg hr];have d1:decide (D.R<=D.count ((i:Int)+1))=false:=ax hr;have s1:IntKind.i64.wrap (D.count ((i:Int)+1)+1)=D.count ((i:Int)+1)+1:=Q.iw (by omega) (by omega)
     have s2:wrap64 (D.count ((i:Int)+1)+1)=D.count ((i:Int)+1)+1:=by unfold wrap64;omega
     have PT:Hid (∀x,D.put ((i:Int)+1) x={D with C:=D.C.set i x}):=λx=>by unfold Rd.put;rw[EZ.o]
     rw[PT.o];clear h hc hh ez e hR h0 h1 h2 hr PT;have CL:Hid (D.C.length=D.C.length):=rfl;generalize D.count ((i:Int)+1)=x at *;obtain⟨m,hm⟩:∃m,D.C.length=m:=⟨_,rfl⟩;simp only[hm] at c1 hii h6;clear hm CL;go_enter Tryz.func109,Tryz.ntmps109;go_wp2_with fail
     refine TH.o.mono ?_;rintro _ wq ⟨rfl,hwq⟩;rw[hwq];clear hwq;go_wp2_with fail
     go_quiet (fail)
     go_wp2_with fail
     go_ret;exact⟨rfl,((HQ.o.keep (drN _ _)).setC HE.o _ _).1,(Vf.keep (drN _ _)).trans ((HQ.o.keep (drN _ _)).setC HE.o _ _).2⟩
 . rw[if_neg h0];rw[ax h0] at TH;clear h h0;go_enter Tryz.func109,Tryz.ntmps109;go_wp2_with fail
   refine TH.o.mono ?_;rintro _ wq ⟨rfl,hwq⟩;rw[hwq];clear hwq;go_wp2_with fail
   go_ret;exact⟨rfl,HQ.o,Vf.refl _ _⟩
theorem Rq.pgs(h:Rq w rb D col):Pgs w D.aP D.P:=λi hi=>by
 obtain⟨g,e,hc⟩:=h.pAt (i:=i) (by rw[<-h.nP];exact hi)
 exact⟨g,0,e,λk u hk hu=>by rw[bH];exact hc k u hk hu⟩
def Rd.pg(D:Rd):List Q.Pg:=D.C.zip D.L
theorem Rd.pg_len(h:D.L.length=D.C.length):D.pg.length=D.C.length:=by unfold Rd.pg;rw[g8,h];omega
theorem Rd.pg_get(h:D.L.length=D.C.length)(hi:i<D.C.length):D.pg.getD i Q.Pg.zero=(D.C.getD i 0,D.L.getD i false):=by
 unfold Rd.pg;have h1:i<D.L.length:=by omega
 have h2:i<(D.C.zip D.L).length:=by rw[g8];omega
 rw[aq,aU h2];simp[h1,hi]
def iy(P:List Q.Pg):Int:=match Q.iD P 1 with
 | []=>0
 |n::_=>n
theorem sL{P:List Q.Pg}(hi:i<P.length)(hs:Q.stt (P.getD i Q.Pg.zero)=s)(hb:∀j,j<i->Q.stt (P.getD j Q.Pg.zero)≠s):∃T,Q.iD P s=((i:Int)+1)::T:=by
 obtain⟨k,hk⟩:∃k,P.length=i+(k+1):=⟨P.length-i-1,by omega⟩
 unfold Q.iD;rw[hk,List.range_add,fN,bL,gJ.2 (λj hj=>by simpa using hb j (cQ.1 hj)),List.range_succ_eq_map,bC,List.filter_cons,if_pos (by simpa using hs)]
 exact⟨_,rfl⟩
theorem oE{P:List Q.Pg}(hb:∀j,j<P.length->Q.stt (P.getD j Q.Pg.zero)≠s):Q.iD P s=[]:=by
 unfold Q.iD;rw[gJ.2 (λj hj=>by simpa using hb j (cQ.1 hj))]
 rfl
theorem qc(c:Int)(l:Bool):Q.stt (c,l)=1↔c=0/\l=false:=by
 unfold Q.stt;by_cases hc:c=0<;>cases l<;>simp[hc]
theorem pv(w:World)(rb:Nat)(D:Rd)(col:Nat->Nat)(h:Rq w rb D col):
 Calls Tryz.prog 101 #[.pointer (some ⟨rb,0,none⟩)] w λe w'=>e=.returned (.int .i64 (iy D.pg))/\w'=w:=by
 obtain⟨c0,c1,c2,c3,c6⟩:=h.cells;have CA:=ig λ(i:Nat)(hi:i<D.C.length)=>h.cAt hi
 have LA:=ig λ(i:Nat)(hi:i<D.C.length)=>h.lAt hi
 have PG:=ig λ(i:Nat)(hi:i<D.C.length)=>Rd.pg_get h.nL hi
 have PL:=ig (Rd.pg_len h.nL);have hL:=h.nL;rw[hL] at c2;have h6:=h.n6;clear h hL c0 c3 c6;obtain⟨m,hm⟩:∃m,D.C.length=m:=⟨_,rfl⟩;simp only[hm] at c1 c2 CA LA PG PL h6;clear hm;go_enter Tryz.func101,Tryz.ntmps101;go_wp2_with fail
 go_loopw [3] (λvk wx=>∃k:Nat,k<=m/\vk=.int .i64 ((k:Int)+1)/\wx=w/\∀j,j<k->Q.stt (D.pg.getD j Q.Pg.zero)≠1) (λvk _=>m+1-(intOf vk).toNat)
 case atStart=>exact⟨0,aF _,rfl,rfl,λj hj=>absurd hj (dO _)⟩
 case round=>
  obtain⟨k,hk,rfl,rfl,hj⟩:=hrel;have HJ:=ig hj;clear hj;by_cases hlt:k<m
  . have dki:decide ((k:Int)+1<=(m:Int))=true:=ay (by omega)
    have hki:(k:Int)+1<=(m:Int):=by omega
    have hs:(k:Int)+1-1=(k:Int):=by omega
    have hii:(k:Int)<(m:Int):=by omega
    obtain⟨g,eg,cA⟩:=CA.o k hlt;obtain⟨g2,eg2,lA⟩:=LA.o k hlt;have PK:=ig (PG.o k hlt);rw[eg] at c1;rw[eg2] at c2;obtain⟨x,hx⟩:∃x,D.C.getD k 0=x:=⟨_,rfl⟩;obtain⟨l,hl⟩:∃l,D.L.getD k false=l:=⟨_,rfl⟩;simp only[hx,hl] at cA lA PK;clear hx hl eg eg2;by_cases hx0:x=0
    . subst hx0;cases l with
      |false=>
       have FND:Hid (iy D.pg=(k:Int)+1):=by
        show _=_;obtain⟨T,hT⟩:=sL (s:=1) (by rw[PL.o];exact hlt) (by rw[PK.o,qc];exact⟨rfl,rfl⟩) HJ.o
        unfold iy;rw[hT]
       go_wp2_with fail
       go_ret;rw[FND.o];exact⟨rfl,rfl⟩
      |true=>
       have NX:Hid (∀j,j<k+1->Q.stt (D.pg.getD j Q.Pg.zero)≠1):=λj hj=>by
        by_cases e:j=k
        . rw[e,PK.o,ne_eq,qc];simp
        . exact HJ.o j (by omega)
       clear PK HJ;go_wp2_with fail
       go_roundw
       case rel=>exact⟨k+1,by omega,by go_num,trivial,NX.o⟩
       case measure=>simp[intOf];omega
    . have dx:(x==0)=false:=by simp[hx0]
      have NX:Hid (∀j,j<k+1->Q.stt (D.pg.getD j Q.Pg.zero)≠1):=λj hj=>by
       by_cases e:j=k
       . rw[e,PK.o,ne_eq,qc];exact λh=>hx0 h.1
       . exact HJ.o j (by omega)
      clear PK HJ hx0;go_wp2_with fail
      go_roundw
      case rel=>exact⟨k+1,by omega,by go_num,trivial,NX.o⟩
      case measure=>simp[intOf];omega
  . have hki:¬((k:Int)+1<=(m:Int)):=by omega
    have dki:decide ((k:Int)+1<=(m:Int))=false:=ax hki
    have FND:Hid (iy D.pg=0):=by
     show _=_;unfold iy;rw[oE (λj hj=>HJ.o j (by rw[PL.o] at hj;omega))]
    go_wp2_with fail
    go_ret;rw[FND.o];exact⟨rfl,rfl⟩
theorem mi{P:List Q.Pg}(h:iy P≠0):∃i:Nat,i<P.length/\iy P=(i:Int)+1/\Q.stt (P.getD i Q.Pg.zero)=1:=by
 unfold iy at h ⊢;cases e:Q.iD P 1 with
 |nil=>rw[e] at h;exact absurd rfl h
 |cons n T=>
  have hm:n∈Q.iD P 1:=by rw[e];exact dN
  unfold Q.iD at hm;obtain⟨i,hi,rfl⟩:=bG.1 hm;obtain⟨h1,h2⟩:=fp.1 hi;exact⟨i,cQ.1 h1,rfl,by simpa using h2⟩
def Rd.makeR(D:Rd)(p:Pg):Int×Int:=if p.check=0 then (if iy D.pg=0 then (0,12) else (iy D.pg,0)) else (0,(p.check:Int))
def Rd.makeD(D:Rd)(p:Pg)(q:Pv):Rd:=if p.check=0/\iy D.pg≠0 then {D with C:=D.C.set (iy D.pg-1).toNat 1,P:=D.P.set (iy D.pg-1).toNat q} else D
def kM(P:List Q.Pg)(s k:Nat):Nat:=((List.range k).filter λi=>decide (Q.stt (P.getD i Q.Pg.zero)=s)).length
theorem wW(P:List Q.Pg)(s k:Nat):kM P s (k+1)=kM P s k+(if Q.stt (P.getD k Q.Pg.zero)=s then 1 else 0):=by
 unfold kM;rw[fM,fN,ae];congr 1
 by_cases h:Q.stt (P.getD k Q.Pg.zero)=s
 . rw[if_pos h,List.filter_cons,if_pos (ay h)];rfl
 . rw[if_neg h,List.filter_cons,if_neg (by rw[ax h];decide)];rfl
theorem yh(P:List Q.Pg)(s:Nat):kM P s P.length=(Q.iD P s).length:=by unfold kM Q.iD;rw[a7]
theorem BC(P:List Q.Pg)(s k:Nat):kM P s k<=k:=by
 unfold kM;exact aO (fq _ _) (by rw[eJ];exact ai _)
theorem xN(w:World)(rb:Nat)(D:Rd)(col:Nat->Nat)(h:Rq w rb D col)(s:Nat):
 Calls Tryz.prog 50 #[.pointer (some ⟨rb,0,none⟩),.int .i64 (s:Int)] w λe w'=>e=.returned (.int .i64 (((Q.iD D.pg s).length:Nat):Int))/\w'=w:=by
 obtain⟨c0,c1,c2,c3,c6⟩:=h.cells;have ST:=ig λ(z:Int)=>kC w rb D col h z
 have PK:Hid (∀k:Nat,k<D.C.length->D.state ((k:Int)+1)=Q.stt (D.pg.getD k Q.Pg.zero)):=λk hk=>by
  have ez:((k:Int)+1-1).toNat=k:=by omega
  unfold Rd.state;rw[if_pos (Rd.has_iff.2 ⟨by omega,by omega⟩),Rd.pg_get h.nL hk]
  unfold Rd.lasts;rw[ez]
 have TL:Hid ((Q.iD D.pg s).length=kM D.pg s D.C.length):=by show _=_;rw[<-yh,Rd.pg_len h.nL]
 have h6:=h.n6;clear h c0 c2 c3 c6;obtain⟨m,hm⟩:∃m,D.C.length=m:=⟨_,rfl⟩;simp only[hm] at c1 PK TL h6;clear hm;rw[TL.o];clear TL;go_enter Tryz.func50,Tryz.ntmps50;go_wp2_with fail
 go_loopw [5,6] (λvn vk wx=>∃k:Nat,k<=m/\vn=.int .i64 ((kM D.pg s k:Nat):Int)/\vk=.int .i64 ((k:Int)+1)/\wx=w) (λ_ vk _=>m+1-(intOf vk).toNat)
 case atStart=>exact⟨0,aF _,rfl,rfl,rfl⟩
 case round=>
  obtain⟨k,hk,rfl,rfl,rfl⟩:=hrel;have hT:=BC D.pg s k;have TS:=ig (wW D.pg s k);by_cases hlt:k<m
  . have dki:decide ((k:Int)+1<=(m:Int))=true:=ay (by omega)
    have hki:(k:Int)+1<=(m:Int):=by omega
    have SK:=ig (ST.o ((k:Int)+1));rw[PK.o k hlt] at SK;obtain⟨x,hx⟩:∃x,Q.stt (D.pg.getD k Q.Pg.zero)=x:=⟨_,rfl⟩;rw[hx] at SK TS;clear hx;by_cases hs:x=s
    . subst hs;rw[if_pos rfl] at TS;obtain⟨t,ht⟩:∃t,kM D.pg x k=t:=⟨_,rfl⟩;simp only[ht] at TS hT ⊢;clear ht;have dd:((x:Int)==(x:Int))=true:=by simp
      go_wp2_with fail
      refine SK.o.mono ?_;rintro _ wq ⟨rfl,hwq⟩;rw[hwq];clear hwq;go_wp2_with fail
      go_roundw
      case rel=>exact⟨k+1,by omega,by rw[TS.o];go_num,by go_num,trivial⟩
      case measure=>simp[intOf];omega
    . rw[if_neg hs] at TS;have dd:((x:Int)==(s:Int))=false:=by simp;omega
      clear hs;go_wp2_with fail
      refine SK.o.mono ?_;rintro _ wq ⟨rfl,hwq⟩;rw[hwq];clear hwq;go_wp2_with fail
      go_roundw
      case rel=>exact⟨k+1,by omega,by rw[TS.o];rfl,by go_num,trivial⟩
      case measure=>simp[intOf];omega
  . have hki:¬((k:Int)+1<=(m:Int)):=by omega
    have dki:decide ((k:Int)+1<=(m:Int))=false:=ax hki;have hkm:k=m:=by omega
    have HKM:=ig hkm;clear hkm;go_wp2_with fail
    go_ret;rw[<-HKM.o];exact⟨rfl,rfl⟩
end Go.Proofs.YtbdkogimlbnlmaaGreat
