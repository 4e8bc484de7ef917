import Derived.Test.YtbdkogimlbnlmaaGreatWqB17
set_option linter.unusedVariables false
set_option linter.unusedSimpArgs false
set_option maxHeartbeats 8000000
set_option maxRecDepth 8000
namespace Go.Proofs.YtbdkogimlbnlmaaGreat.Q
open Go.RowKit Go.Shelf
attribute [local go_sem] Oper.semAt_some
theorem yp(n:Nat)(hc:n<=65536)(w:World):(Instr.makeSlice 35 (.int .i64 0) (.int .i64 (n:Int))).run Tryz.prog w=.ok (.slice (some ⟨w.heap.size,0,none⟩) 0 n) (w.alloc (.cells (vi (List.replicate n 0)).toArray 3)):=by
 obtain⟨i0,hi,hz0,hz1,hz2⟩:=cZ mq;have hr:=run_make (P:=Tryz.prog) w 35 3 i0 (.int .i64 0) Tryz.underlying35 hi hz0 .i64 .i64 (0:Nat) n (by omega) (by omega) (by rw[hz2];omega) (by omega)
 simp only[cR,hz1,dM] at hr;have e:madeCells (Value.int .i64 0).cells n=(vi (List.replicate n 0)).toArray:=oz n;rw[e] at hr;exact hr
theorem jx(w:World)(a:Option Addr)(n cap:Nat)(l:List Int)(hI:Ir w a l)(hn:n=l.length)(hl:l.length<=65536):
 Calls Tryz.prog 87 #[.slice a n cap] w λe w'=>∃a' c',e=.returned (.slice a' n c')/\IOwn w w' a' c' l:=by
 have HI:=gZ hI;have HN:=gZ hn;rw[<-hn] at hl;have hmk:=yp n hl w;have O0:=gZ (show IOwn w (w.alloc (.cells (vi (List.replicate n 0)).toArray 3)) (some ⟨w.heap.size,0,none⟩) n (l.take 0) from⟨Ig.mk (az w _) (by simp) (by unfold maxLen;omega) (by simp[vi]) (by simp[vi]),λx hx=>.inr (by cases hx;exact ai _),al _ _⟩)
 clear hI hn;go_enter Tryz.func87,Tryz.ntmps87;go_wp2_with fail
 go_loopw [3,4] (λs i wr=>∃(j:Nat)(a':Option Addr)(c':Nat),j<=n/\i=.int .i64 (j:Int)/\s=.slice a' j c'/\IOwn w wr a' c' (l.take j)) (λ_ i _=>n-(intOf i).toNat)
 case atStart=>exact⟨0,_,n,aF _,rfl,rfl,O0.o⟩
 case round=>
  clear O0;obtain⟨j,a',c',hj,rfl,rfl,hO⟩:=hrel;have O:=gZ hO;clear hO;by_cases hlt:j<n
  . have hjl:j<l.length:=by rw[<-HN.o];exact hlt
    have hji:(j:Int)<(n:Int):=by omega
    obtain⟨b1,o1,rfl,cA⟩:=(HI.o.keep O.o.b).at hjl;have tl:(l.take j).length=j:=by rw[bh,<-HN.o];omega
    have SN:=gZ (jm l 0 hjl);obtain⟨x,hx⟩:∃x,l.getD j 0=x:=⟨_,rfl⟩;rw[hx] at cA SN;have aw:=al wr (.cells #[.int .i64 x] 3);have nc:=iC wr (.int .i64 x) 3;have O1:=gZ (O.o.keep aw);have R1:=gZ O1.o.r;have HAW:=gZ aw;clear hx aw;go_wp2_with (refine i9 rfl _ _ rfl a' j c' (l.take j) (by simp[Act.eval]) tl.symm R1.o ⟨wr.heap.size,0,none⟩ 1 x (by simp[Act.eval]) nc (by rw[tl];omega) ?_;intro g c2 w2 hR hN hg hgl;have O2:=gZ (O.o.step HAW.o hR hN hg);clear hR hN hg hgl)
    go_roundw
    case rel=>exact⟨j+1,_,c2,by omega,by go_num,rfl,by rw[SN.o];exact O2.o⟩
    case measure=>simp[intOf];omega
  . obtain rfl:j=n:=by omega
    go_wp2;go_ret;exact⟨a',c',rfl,by have o:=O.o;rwa [HN.o,cM] at o⟩
end Go.Proofs.YtbdkogimlbnlmaaGreat.Q
namespace Go.Proofs.YtbdkogimlbnlmaaGreat
open Go.RowKit
variable {P:List Pv}{C:List Value}{cap g n sz:Nat}{e:TypeId}{w:World}
theorem Dd(w:World)(n r:Int)(h:Q.jF n r=false):Calls Tryz.prog 33 #[.int .i64 n,.int .i64 r] w λe w'=>e=.returned (.tuple #[.pointer none,.int .i64 1])/\w'=w:=by
 have RA:=gZ (pk w r);unfold Q.jF at h;by_cases h1:n<1
 . have d1:decide (n<1)=true:=ay h1;clear h;go_enter Tryz.func33,Tryz.ntmps33;go_wp2_with fail
   go_ret2
   exact⟨rfl,rfl⟩
 . by_cases h2:65536<n
   . have d1:decide (n<1)=false:=au h1;have d2:decide (65536<n)=true:=ay h2;clear h;go_enter Tryz.func33,Tryz.ntmps33;go_wp2_with fail
     go_ret2
     exact⟨rfl,rfl⟩
   . have d1:decide (n<1)=false:=au h1;have d2:decide (65536<n)=false:=au h2
     have h3:(decide (2<=r)&&decide (r<65536))=false:=by
      rw[ay (show 1<=n by omega),ay (show n<=65536 by omega)] at h
      simpa using h
     rw[h3] at RA;clear h h3;go_enter Tryz.func33,Tryz.ntmps33;go_wp2_with fail
     refine RA.o.mono ?_;rintro _ wq ⟨rfl,hwq⟩;rw[hwq];clear hwq;go_wp2_with fail
     go_ret2
     exact⟨rfl,rfl⟩
def Rd.Fresh(D:Rd)(r:Int)(i:Nat):Prop:=D.R=r/\D.C=List.replicate i 0/\D.L=List.replicate i false/\D.P=List.replicate i Pv.zero/\D.aA=none/\D.nA=0/\D.cA=0/\D.fl=0/\D.hush=false
theorem Rn.start(r:Int):Rn w (w.alloc (.cells #[.int .i64 r,.slice none 0 0,.slice none 0 0,.slice none 0 0,.slice none 0 0,.int .i64 0,.bool false] 99)) w.heap.size ⟨r,none,0,[],none,0,[],none,0,[],none,0,0,0,false⟩:=
 ⟨aH _ _,Q.Gw.nil _ _ _,Q.Gw.nil _ _ _,Q.Gw.nil _ _ _,λp hp=>absurd hp (bu),λp hp=>absurd hp (bu),ai _,New.none _ _,New.none _ _,New.none _ _,al _ _⟩
theorem ra{W:World}{v:Value}{t:TypeId}(h:W.heap[g]?=some (.cells #[v] t (0,0))):∀j u,[v][j]?=some u->W.cell? ((⟨g,0,none⟩:Addr).add j)=some u:=by
 intro j u hu;rw[Addr.add_mid,bG,ax _ _ _ _ _ _ h,<-hu];simp
theorem zero_add{W:World}{g:Nat}{t:TypeId}(h:W.heap[g]?=some (.cells #[.int .i64 0,.int .i64 0,.slice none 0 0,.slice none 0 0,.int .i64 0] t (0,0))):∀j u,Pv.zero.cs.toList[j]?=some u->W.cell? ((⟨g,0,none⟩:Addr).add j)=some u:=by
 intro j u hu;rw[Addr.add_mid,bG,ax _ _ _ _ _ _ h,<-hu];simp[Pv.zero,Pv.cs]
theorem At:∀u∈Pv.zero.cs.toList,u.oneCell'=true:=by
 intro u hu;simp[Pv.zero,Pv.cs] at hu;rcases hu with rfl|rfl|rfl<;>rfl
theorem pI{α:Type}(i:Nat)(x:α):List.replicate i x++[x]=List.replicate (i+1) x:=by rw[List.replicate_succ']
theorem Ap(w:World)(n:Nat)(r:Int)(h:Q.jF n r=true):Calls Tryz.prog 33 #[.int .i64 (n:Int),.int .i64 r] w λe w'=>∃(rb:Nat)(D:Rd),e=.returned (.tuple #[.pointer (some ⟨rb,0,none⟩),.int .i64 0])/\Rn w w' rb D/\D.Fresh r n:=by
 have RA:=gZ (pk w r);unfold Q.jF at h;simp only[bO,bL] at h;rw[ay (show 2<=r by omega),ay (show r<65536 by omega)] at RA
 have d1:decide ((n:Int)<1)=false:=au (by omega)
 have d2:decide ((65536:Int)<(n:Int))=false:=au (by omega)
 have h6:n<=65536:=by omega
 have S0:=gZ (Rn.start (w:=w) r);clear h;go_enter Tryz.func33,Tryz.ntmps33;go_wp2_with fail
 refine RA.o.mono ?_;rintro _ wq ⟨rfl,hwq⟩;rw[hwq];clear hwq;go_wp2_with fail
 generalize (w.alloc (.cells #[.int .i64 r,.slice none 0 0,.slice none 0 0,.slice none 0 0,.slice none 0 0,.int .i64 0,.bool false] 99))=w1 at *;go_loopw [7] (λvi wx=>∃(i:Nat)(D:Rd),i<=n/\vi=.int .i64 (i:Int)/\Rn w wx w.heap.size D/\D.Fresh r i) (λvi _=>n-(intOf vi).toNat)
 case atStart=>exact⟨0,_,aF _,rfl,S0.o,rfl,rfl,rfl,rfl,rfl,rfl,rfl,rfl,rfl⟩
 case round=>
  clear S0;obtain⟨i,D,hi,rfl,hR,hF⟩:=hrel;have RR:=gZ hR;have FF:=gZ hF;have LC:D.C.length=i:=by rw[hF.2.1,be]
  have LL:D.L.length=i:=by rw[hF.2.2.1,be]
  have LP:D.P.length=i:=by rw[hF.2.2.2.1,be]
  have HLC:=gZ LC;have HLL:=gZ LL;have HLP:=gZ LP;clear hR hF LC LL LP;by_cases hlt:i<n
  . have hii:(i:Int)<(n:Int):=by omega
    have hml:i+1<=maxLen:=by unfold maxLen;omega
    obtain⟨x0,x1,x2,x3,f1,f2,f3⟩:=RR.o.cells;rw[HLC.o] at x1;rw[HLL.o] at x2;rw[HLP.o] at x3;have rbl:=RR.o.lb;have A0:=gZ (al wr (.cells #[Value.int .i64 0] 3));have X0:=gZ (aH wr (.cells #[Value.int .i64 0] 3));have P0:=gZ (RR.o.keep A0.o);have G0:=gZ P0.o.cr;rw[HLC.o] at G0;go_wp2_with (at_builtin;refine jn Tryz.underlying35 zg rfl (by decide) rfl _ _ rfl D.aC i D.cC (Q.vi D.C) rfl G0.o ⟨wr.heap.size,0,none⟩ 1 [Value.int .i64 0] rfl rfl (ra X0.o) (λu hu=>by rw[aQ.1 hu];rfl) hml (by omega) ?_)
    intro gC cC w5 hG hN hB;have R1:=gZ (P0.o.apC (x:=0) (by rw[HLC.o];exact hG) hN hB)
    rw[HLC.o] at R1;have b5:w5.heap[w.heap.size]?=some (.cells D.box 99 (0,0)):=hB.same P0.o.box (λ⟨y,hy,e⟩=>by obtain⟨cur,hc⟩:=P0.o.cr.blk hy;exact i8 P0.o.box hc (by decide) e.symm)
    have y1:w5.cell? ⟨w.heap.size,1,none⟩=some (.slice D.aC i D.cC):=by rw[ax _ _ _ _ _ _ b5];show some (Value.slice D.aC D.C.length D.cC)=_;rw[HLC.o]
    have z1:w5.frozen? ⟨w.heap.size,1,none⟩=false:=by simp[World.frozen?,b5]
    clear hG hN hB b5 x0 x1 x2 x3 f1 f2 f3 P0 G0 X0 A0 rbl;go_upto_region 8 with fail
    generalize hw5:(w5.setCell ⟨w.heap.size,1,none⟩ (.slice (some ⟨gC,0,none⟩) (i+1) cC))=w6 at *;clear hw5 y1 z1;obtain⟨D1,hD1⟩:∃X,({D with aC:=some ⟨gC,0,none⟩,cC:=cC,C:=D.C++[0]}:Rd)=X:=⟨_,rfl⟩;rw[hD1] at R1;have HLC1:Hid (D1.C.length=i+1):=by show _=_;rw[<-hD1];show(D.C++[0]).length=_;rw[ae,HLC.o];rfl
    have HLL:Hid (D1.L.length=i):=by show _=_;rw[<-hD1];exact HLL.o
    have HLP:Hid (D1.P.length=i):=by show _=_;rw[<-hD1];exact HLP.o
    replace HLC:=HLC1
    have HD1:=gZ hD1;clear hD1;obtain⟨x0,x1,x2,x3,f1,f2,f3⟩:=R1.o.cells;rw[HLC.o] at x1;rw[HLL.o] at x2;rw[HLP.o] at x3;have rbl:=R1.o.lb;have A0:=gZ (al w6 (.cells #[Value.bool false] 4));have X0:=gZ (aH w6 (.cells #[Value.bool false] 4));have P0:=gZ (R1.o.keep A0.o);have G0:=gZ P0.o.lr;rw[HLL.o] at G0;go_wp2_with (at_builtin;refine jn Tryz.underlying64 Ay rfl (by decide) rfl _ _ rfl D1.aL i D1.cL (vbl D1.L) rfl G0.o ⟨w6.heap.size,0,none⟩ 1 [Value.bool false] rfl rfl (ra X0.o) (λu hu=>by rw[aQ.1 hu];rfl) hml (by omega) ?_)
    intro gL cL w5 hG hN hB;have R2:=gZ (P0.o.apL (x:=false) (by rw[HLL.o];exact hG) hN hB)
    rw[HLL.o] at R2;have b5:w5.heap[w.heap.size]?=some (.cells D1.box 99 (0,0)):=hB.same P0.o.box (λ⟨y,hy,e⟩=>by obtain⟨cur,hc⟩:=P0.o.lr.blk hy;exact i8 P0.o.box hc (by decide) e.symm)
    have y2:w5.cell? ⟨w.heap.size,2,none⟩=some (.slice D1.aL i D1.cL):=by rw[ax _ _ _ _ _ _ b5];show some (Value.slice D1.aL D1.L.length D1.cL)=_;rw[HLL.o]
    have z2:w5.frozen? ⟨w.heap.size,2,none⟩=false:=by simp[World.frozen?,b5]
    clear hG hN hB b5 x0 x1 x2 x3 f1 f2 f3 P0 G0 X0 A0 rbl;go_upto_region 9 with fail
    generalize hw5:(w5.setCell ⟨w.heap.size,2,none⟩ (.slice (some ⟨gL,0,none⟩) (i+1) cL))=w7 at *;clear hw5 y2 z2;obtain⟨D2,hD2⟩:∃X,({D1 with aL:=some ⟨gL,0,none⟩,cL:=cL,L:=D1.L++[false]}:Rd)=X:=⟨_,rfl⟩;rw[hD2] at R2;have HLC:Hid (D2.C.length=i+1):=by show _=_;rw[<-hD2];exact HLC.o
    have HLL2:Hid (D2.L.length=i+1):=by show _=_;rw[<-hD2];show(D1.L++[false]).length=_;rw[ae,HLL.o];rfl
    have HLP:Hid (D2.P.length=i):=by show _=_;rw[<-hD2];exact HLP.o
    replace HLL:=HLL2
    have HD2:=gZ hD2;clear hD2;obtain⟨x0,x1,x2,x3,f1,f2,f3⟩:=R2.o.cells;rw[HLC.o] at x1;rw[HLL.o] at x2;rw[HLP.o] at x3;have rbl:=R2.o.lb;have A0:=gZ (al w7 (.cells #[.int .i64 0,.int .i64 0,.slice none 0 0,.slice none 0 0,.int .i64 0] 31));have X0:=gZ (aH w7 (.cells #[.int .i64 0,.int .i64 0,.slice none 0 0,.slice none 0 0,.int .i64 0] 31));have P0:=gZ (R2.o.keep A0.o);have G0:=gZ P0.o.pr;rw[HLP.o] at G0;go_wp2_with (at_builtin;refine jn Tryz.underlying53 kH rfl (by decide) rfl _ _ rfl D2.aP i D2.cP (vpg D2.P) rfl G0.o ⟨w7.heap.size,0,none⟩ 1 Pv.zero.cs.toList rfl rfl (zero_add X0.o) At hml (by omega) ?_)
    intro gP cP w5 hG hN hB;have R3:=gZ (P0.o.apP (x:=Pv.zero) (Pn.zero _ _) (.inr rfl) (by rw[HLP.o];exact hG) hN hB)
    rw[HLP.o] at R3;have b5:w5.heap[w.heap.size]?=some (.cells D2.box 99 (0,0)):=hB.same P0.o.box (λ⟨y,hy,e⟩=>by obtain⟨cur,hc⟩:=P0.o.pr.blk hy;exact i8 P0.o.box hc (by decide) e.symm)
    have y3:w5.cell? ⟨w.heap.size,3,none⟩=some (.slice D2.aP i D2.cP):=by rw[ax _ _ _ _ _ _ b5];show some (Value.slice D2.aP D2.P.length D2.cP)=_;rw[HLP.o]
    have z3:w5.frozen? ⟨w.heap.size,3,none⟩=false:=by simp[World.frozen?,b5]
    clear hG hN hB b5 x0 x1 x2 x3 f1 f2 f3 P0 G0 X0 A0 rbl;go_upto_region 6 with fail
    generalize hw5:(w5.setCell ⟨w.heap.size,3,none⟩ (.slice (some ⟨gP,0,none⟩) (i+1) cP))=w8 at *;clear hw5 y3 z3;obtain⟨D3,hD3⟩:∃X,({D2 with aP:=some ⟨gP,0,none⟩,cP:=cP,P:=D2.P++[Pv.zero]}:Rd)=X:=⟨_,rfl⟩;rw[hD3] at R3
    have F3:Hid (D3.Fresh r (i+1)):=by
     show Rd.Fresh _ _ _;obtain⟨q1,q2,q3,q4,q5,q6,q7,q8,q9⟩:=FF.o;rw[<-hD3,<-HD2.o,<-HD1.o];refine⟨q1,?_,?_,?_,q5,q6,q7,q8,q9⟩
     . show D.C++[0]=_;rw[q2];exact pI i 0
     . show D.L++[false]=_;rw[q3];exact pI i false
     . show D.P++[Pv.zero]=_;rw[q4];exact pI i Pv.zero
    clear hD3;go_wp2_with fail
    go_roundw
    case rel=>exact⟨i+1,D3,by omega,by go_num,R3.o,F3.o⟩
    case measure=>simp[intOf];omega
  . obtain rfl:i=n:=by omega
    go_wp2_with fail
    go_ret2
    exact⟨w.heap.size,D,rfl,RR.o,FF.o⟩
theorem Q.Gw.setc(h:Q.Gw e sz w (some ⟨g,0,none⟩) cap n C)(k:Nat)(v:Value):Q.Gw e sz (w.setCell ⟨g,k,none⟩ v) (some ⟨g,0,none⟩) cap n (C.set k v):=by
 have hl:=h.length;rcases h.cases with⟨h0,_⟩|⟨g',cur,h0,hg,h1,h2,h3,h4⟩
 . cases h0
 . cases h0;refine Q.Gw.mk (by rw[aO];exact hl) (aR _ _ _ _ _ _ hg) h1 h2 (by simpa using h3) ?_
   rw[dQ,fB,h4]
theorem Q.Gw.free(h:Q.Gw e sz w (some ⟨g,0,none⟩) cap n C)(k:Nat):w.frozen? ⟨g,k,none⟩=false:=by
 rcases h.cases with⟨h0,_⟩|⟨g',cur,h0,hg,_⟩
 . cases h0
 . cases h0;exact bq _ _ _ _ _ hg
theorem Db(l:List Bool)(k:Nat)(x:Bool):(vbl l).set k (.bool x)=vbl (l.set k x):=by simp[vbl,List.map_set]
theorem Q.Gw.there5(h:Q.Gw 31 5 w (some ⟨g,0,none⟩) cap P.length (vpg P)){k:Nat}(hk:k<P.length):w.there g (k*5) 5:=by
 rcases h.cases with⟨h0,_⟩|⟨g',cur,h0,hg,h1,h2,h3,h4⟩
 . cases h0
 . cases h0;intro j hj;have hle:P.length*5<=cap*5:=dw _ h1;constructor
   . rw[ax _ _ _ _ _ _ hg];simp[show k*5+j<cur.size by omega]
   . exact bq _ _ _ _ _ hg
theorem Q.Gw.setp(h:Q.Gw 31 5 w (some ⟨g,0,none⟩) cap P.length (vpg P))(k:Nat)(v:Pv):Q.Gw 31 5 (w.setCells g (k*5) v.cs.toList) (some ⟨g,0,none⟩) cap (P.set k v).length (vpg (P.set k v)):=by
 rcases h.cases with⟨h0,_⟩|⟨g',cur,h0,hg,h1,h2,h3,h4⟩
 . cases h0
 . cases h0;obtain⟨cur',k1,k2,k3⟩:=kI g 31 v.cs.toList w (k*5) cur hg;have hvl:v.cs.toList.length=5:=rfl;refine Q.Gw.mk (mI _) k1 (by rw[aO];exact h1) h2 (by rw[k2];exact h3) ?_
   rw[aO];apply dN;intro i;have hle:P.length*5<=cap*5:=dw _ h1;by_cases hi:i<P.length*5
   . have ho:(vpg P)[i]?=cur[i]?:=by rw[<-h4,bX,if_pos hi];simp
     have hr:i/5<P.length:=by omega
     have hsp:i=i/5*5+i%5:=by omega
     have hmod:i%5<5:=fj _ (by decide)
     rw[bX,if_pos hi,eG,k3 i (by omega),hvl]
     have hR:(vpg (P.set k v))[i]?=((P.set k v).getD (i/5) Pv.zero).cs.toList[i%5]?:=by
      conv=>lhs;rw[hsp]
      exact lW (P.set k v) (i/5) (i%5) (by rw[aO];exact hr) hmod
     have hO:(vpg P)[i]?=(P.getD (i/5) Pv.zero).cs.toList[i%5]?:=by
      conv=>lhs;rw[hsp]
      exact lW P (i/5) (i%5) hr hmod
     rw[hR];by_cases hin:k*5<=i/\i<k*5+5
     . have e:i/5=k:=by omega
       rw[if_pos hin,e,show i-k*5=i%5 by omega]
       simp[show k<P.length by omega]
     . have e:¬k=i/5:=by omega
       rw[if_neg hin,<-ho,hO];simp[bT e]
   . rw[bX,if_neg hi,du (by rw[mI,aO];omega)]
def nmc(x:Int×Pv):List Value:=.int .i64 x.1::x.2.cs.toList
def nmg(L:List (Int×Pv)):List (Int×Pg):=L.map λx=>(x.1,x.2.pg)
def jr(a:Option Addr)(k:Nat):Bool:=match a with
 |none=>false
 |some x=>decide (x.block=k)
theorem iw{a:Option Addr}{k:Nat}:jr a k=true↔∃x,a=some x/\x.block=k:=by
 cases a with
 |none=>simp[jr]
 |some x=>simp[jr]
def kJ(w wx:World)(rb:Nat)(D:Rd)(k:Nat):Nat:=if k=rb then 1 else if jr D.aC k=true then 2 else if jr D.aL k=true then 3 else if jr D.aP k=true then 4 else if w.heap.size<=k/\k<wx.heap.size then 6 else 0
theorem Rn.rq{wx:World}{rb:Nat}{D:Rd}(h:Rn w wx rb D)(hL:D.L.length=D.C.length)(hP:D.P.length=D.C.length)(h6:D.C.length<=65536):Rq wx rb D (kJ w wx rb D)/\∀k,kJ w wx rb D k≠0->w.heap.size<=k:=by
 have nrb:∀{t:TypeId}{k:Nat}{cs:Array Value},wx.heap[k]?=some (.cells cs t (0,0))->t≠99->k≠rb:=λhk ht=>i8 hk h.box ht
 have nr:∀{t e:TypeId}{sz k:Nat}{cs:Array Value}{a:Option Addr}{cap n:Nat}{C:List Value},Q.Gw e sz wx a cap n C->wx.heap[k]?=some (.cells cs t (0,0))->t≠e->¬jr a k=true:=λhg hk ht e=>by
  obtain⟨x,hx,e⟩:=iw.1 e;obtain⟨cur,hc⟩:=hg.blk hx;exact i8 hk hc ht e.symm
 have six:∀{t:TypeId}{k:Nat}{cs:Array Value},wx.heap[k]?=some (.cells cs t (0,0))->t≠99->t≠3->t≠4->t≠31->w.heap.size<=k->kJ w wx rb D k=6:=λhk h1 h2 h3 h4 h5=>by
  unfold kJ;rw[if_neg (nrb hk h1),if_neg (nr h.cr hk h2),if_neg (nr h.lr hk h3),if_neg (nr h.pr hk h4),if_pos ⟨h5,(af.1 hk).1⟩]
 have low:∀k,kJ w wx rb D k≠0->w.heap.size<=k/\k<wx.heap.size:=λk hk=>by
  unfold kJ at hk;by_cases h1:k=rb
  . rw[h1];exact⟨h.nb,h.lb⟩
  . rw[if_neg h1] at hk;by_cases h2:jr D.aC k=true
    . obtain⟨x,hx,e⟩:=iw.1 h2;rw[<-e];exact⟨iz h.nC hx,h.cr.lt hx⟩
    . rw[if_neg h2] at hk;by_cases h3:jr D.aL k=true
      . obtain⟨x,hx,e⟩:=iw.1 h3;rw[<-e];exact⟨iz h.nl hx,h.lr.lt hx⟩
      . rw[if_neg h3] at hk;by_cases h4:jr D.aP k=true
        . obtain⟨x,hx,e⟩:=iw.1 h4;rw[<-e];exact⟨iz h.np hx,h.pr.lt hx⟩
        . rw[if_neg h4] at hk;by_cases h5:w.heap.size<=k/\k<wx.heap.size
          . exact h5
          . rw[if_neg h5] at hk;exact absurd rfl hk
 have pj:∀{a:Option Addr}{c:Nat}{L:List Iv},Jw wx a c L->New w none a->∀x,a=some x->¬ ¬(kJ w wx rb D x.block=6):=λhj hn x hx e=>by
  rcases hj.cases with⟨h0,_⟩|⟨g,cur,h0,hg,_⟩
  . rw[h0] at hx;cases hx
  . rw[h0] at hx;cases hx;exact e (six hg (by decide) (by decide) (by decide) (by decide) (iz hn h0))
 have pr:∀{a:Option Addr}{c:Nat}{l:List Nat},Rw wx a c l->New w none a->∀x,a=some x->¬ ¬(kJ w wx rb D x.block=6):=λhr hn x hx e=>by
  rcases hr.cases with⟨h0,_⟩|⟨g,cur,h0,hg,_⟩
  . rw[h0] at hx;cases hx
  . rw[h0] at hx;cases hx;exact e (six hg (by decide) (by decide) (by decide) (by decide) (iz hn h0))
 refine⟨⟨h.box,h.cr,h.lr,h.pr,λp hp v hv=>?_,h.ps,if_pos rfl,λx hx=>?_,λx hx=>?_,λx hx=>?_,λk hk=>(low k hk).2,hL,hP,h6⟩,λk hk=>(low k hk).1⟩
 . have q:=h.pn p hp;exact Pn.pi (v:=w) ⟨q.it.but hv (pj q.it q.itn),q.itn,q.d.but hv (pr q.d q.dn),q.dn,λt ht=>⟨(q.fr t ht).1.but hv (pr (q.fr t ht).1 (q.fr t ht).2.1),(q.fr t ht).2⟩,q.dist,q.d8,q.ns,q.nk,q.nl,q.nn⟩ (aU (jS (h.ps p hp)).2 (by decide))
 . obtain⟨cur,hc⟩:=h.cr.blk hx;unfold kJ;rw[if_neg (nrb hc (by decide)),if_pos (iw.2 ⟨x,hx,rfl⟩)]
 . obtain⟨cur,hc⟩:=h.lr.blk hx;unfold kJ;rw[if_neg (nrb hc (by decide)),if_neg (nr h.cr hc (by decide)),if_pos (iw.2 ⟨x,hx,rfl⟩)]
 . obtain⟨cur,hc⟩:=h.pr.blk hx;unfold kJ;rw[if_neg (nrb hc (by decide)),if_neg (nr h.cr hc (by decide)),if_neg (nr h.lr hc (by decide)),if_pos (iw.2 ⟨x,hx,rfl⟩)]
def Pgs(w:World)(a:Option Addr)(P:List Pv):Prop:=∀i,i<P.length->∃g off,a=some ⟨g,off,none⟩/\∀k u,k<5->(P.getD i Pv.zero).cs.toList[k]?=some u->w.cell? ⟨g,off+i*5+k,none⟩=some u
theorem wR(n:Nat)(hc:n<=65536)(w:World):(Instr.makeSlice 53 (.int .i64 0) (.int .i64 (n:Int))).run Tryz.prog w=.ok (.slice (some ⟨w.heap.size,0,none⟩) 0 n) (w.alloc (.cells (madeCells Pv.zero.cs (n*5)) 31)):=by
 obtain⟨i0,hi,hz0,hz1,hz2⟩:=cZ kH;have hr:=run_make (P:=Tryz.prog) w 53 31 i0 (.agg Pv.zero.cs) Tryz.underlying53 hi hz0 .i64 .i64 (0:Nat) n (by omega) (by omega) (by rw[hz2];omega) (by omega)
 simp only[cR,hz1] at hr;exact hr
theorem Be(w:World)(n:Nat)(hn:n<=65536):Q.Gw 31 5 (w.alloc (.cells (madeCells Pv.zero.cs (n*5)) 31)) (some ⟨w.heap.size,0,none⟩) n 0 (vpg []):=
 Q.Gw.mk rfl (aH _ _) (aF _) (by unfold maxLen;omega) (fM _ _) (by simp[vpg])
theorem jj(w:World)(a:Option Addr)(n cap:Nat)(L:List Pv)(hP:Pgs w a L)(hn:n=L.length)(hl:L.length<=65536):
 Calls Tryz.prog 102 #[.slice a n cap] w λe w'=>∃a' c',e=.returned (.slice a' n c')/\Q.Gw 31 5 w' a' c' n (vpg L)/\New w none a'/\Below w.heap.size w w':=by
 have HP:=gZ hP;have HN:=gZ hn;rw[<-hn] at hl;have hmk:=wR n hl w;have G0:=gZ (Be w n hl);have B0:=gZ (al w (.cells (madeCells Pv.zero.cs (n*5)) 31));clear hP hn;generalize (w.alloc (.cells (madeCells Pv.zero.cs (n*5)) 31))=w1 at *;go_enter Tryz.func102,Tryz.ntmps102;go_wp2_with fail
 clear hmk;go_loopw [3,4] (λvo vi wx=>∃(i:Nat)(a':Option Addr)(c':Nat),i<=n/\vo=.slice a' i c'/\vi=.int .i64 (i:Int)/\Q.Gw 31 5 wx a' c' i (vpg (L.take i))/\New w none a'/\Below w.heap.size w wx) (λ_ vi _=>n-(intOf vi).toNat)
 case atStart=>exact⟨0,some ⟨w.heap.size,0,none⟩,n,aF _,rfl,rfl,G0.o,λx hx=>.inr (by cases hx;exact ai _),B0.o⟩
 case round=>
  clear G0 B0;obtain⟨i,a',c',hi,rfl,rfl,hG,hNw,hb⟩:=hrel;have GG:=gZ hG;have NN:=gZ hNw;have BB:=gZ hb;clear hG hNw hb;by_cases hlt:i<n
  . have hii:(i:Int)<(n:Int):=by omega
    have hiL:i<L.length:=by rw[<-HN.o];exact hlt
    obtain⟨g,off,rfl,hc⟩:=HP.o i hiL;have cW:∀k u,k<5->(L.getD i Pv.zero).cs.toList[k]?=some u->wr.cell? ⟨g,off+i*5+k,none⟩=some u:=λk u hk hu=>(BB.o.cell (p:=⟨g,off+i*5+k,none⟩) (block_lt_of_cell (hc k u hk hu))).trans (hc k u hk hu)
    have SN:Hid (vpg (L.take i)++(L.getD i Pv.zero).cs.toList=vpg (L.take (i+1))):=by
     show _=_;rw[sR,dL hiL];simp[hiL]
    obtain⟨q,hq⟩:∃q,L.getD i Pv.zero=q:=⟨_,rfl⟩;simp only[hq] at cW SN;clear hq hc;have y0:=cW 0 _ (by decide) rfl
    have y1:=cW 1 _ (by decide) rfl
    have y2:=cW 2 _ (by decide) rfl
    have y3:=cW 3 _ (by decide) rfl
    have y4:=cW 4 _ (by decide) rfl
    rw[bY] at y0;have gl:g<wr.heap.size:=block_lt_of_cell y0;have A0:=gZ (al wr (.cells q.cs 31));have X0:=gZ (aH wr (.cells q.cs 31));have G1:=gZ (GG.o.keep A0.o);have hml:i+1<=maxLen:=by unfold maxLen;omega
    have XC:Hid (∀j u,q.cs.toList[j]?=some u->(wr.alloc (.cells q.cs 31)).cell? ((⟨wr.heap.size,0,none⟩:Addr).add j)=some u):=λj u hu=>by
     rw[Addr.add_mid,bG,ax _ _ _ _ _ _ X0.o,<-hu];simp
    have ON:Hid (∀u∈q.cs.toList,u.oneCell'=true):=by
     intro u hu;simp[Pv.cs] at hu;rcases hu with rfl|rfl|rfl|rfl|rfl<;>rfl
    clear cW X0;simp only[Pv.cs] at A0 G1 XC;go_wp2_with (at_builtin;refine jn Tryz.underlying53 kH rfl (by decide) rfl _ _ rfl a' i c' (vpg (L.take i)) rfl G1.o ⟨wr.heap.size,0,none⟩ 1 q.cs.toList rfl rfl XC.o ON.o hml (by omega) ?_)
    intro g2 c2 w5 hG hNw hB;have B5:Hid (Below w.heap.size w w5):=((But.ofBelow (S:=Q.InA a') (bt BB.o A0.o)).trans hB (λ_ _ e=>e)).below (λk hk ⟨x,hx,e⟩=>by have:=iz NN.o hx;omega)
    have N5:=gZ (mV NN.o hNw (bt BB.o A0.o).size);have G5:=gZ hG;clear hG hNw hB G1 A0 XC ON y0 y1 y2 y3 y4 gl;rw[SN.o] at G5;go_wp2_with fail
    go_roundw
    case rel=>exact⟨i+1,some ⟨g2,0,none⟩,c2,by omega,rfl,by go_num,G5.o,N5.o,B5.o⟩
    case measure=>simp[intOf];omega
  . obtain rfl:i=n:=by omega
    have GE:Hid (Q.Gw 31 5 wr a' c' i (vpg L)):=by
     have k:=GG.o;rw[da (by rw[<-HN.o];exact ai _)] at k
     exact k
    go_wp2_with fail
    go_ret;exact⟨a',c',rfl,GE.o,NN.o,BB.o⟩
theorem lf{ts te:TypeId}{sz bs:Nat}{z:Value}(hu:Tryz.prog.underlying ts=some (.slice te))(hinfo:(Tryz.prog.info? te).map (λi=>(i.zero,i.size,i.bytes))=some (some z,sz,bs))(hz:z.cells.size=sz)(h0:0<sz){w:World}{ops:Array Oper}{o:Oper}{a:Act}{K:Act->World->Prop}{Q':Exit->Act->World->Prop}{E:Prop}(hgd:o.guard=none)(s x:Operand)
 (ho:o.op=.call {callee:=.builtin .append,args:=#[s,x],argTypes:=#[ts,ts]}) (ao:Option Addr) (n cap:Nat) (C:List Value) (hs:a.eval s=.slice ao n cap) (hR:Q.Gw te sz w ao cap n C)
 (ad:Addr) (c:Nat) (xs:List Value) (hx:a.eval x=.slice (some ad) 1 c) (hl:xs.length=1*sz) (hc:∀j u,xs[j]?=some u->w.cell? (ad.add j)=some u) (h1:∀u∈xs,u.oneCell'=true) (hm:n+1<=maxLen) (hlen:(n+1)*bs<=140737488355328)
 (h:∀g cap' w',Q.Gw te sz w' (some ⟨g,0,none⟩) cap' (n+1) (C++xs)->New w ao (some ⟨g,0,none⟩)->But (Q.InA ao) w w'->K (a.put o.dst (.slice (some ⟨g,0,none⟩) (n+1) cap')) w'):
 if Region.wanted o (yielded ops a.tmps)=true then Oper.wp Tryz.prog o a w K Q' else E:=by
 have hw:Region.wanted o (yielded ops a.tmps)=true:=by simp[Region.wanted,hgd]
 rw[if_pos hw];obtain⟨g,cap',w',hr,k1,k2,k3⟩:=oQ hu hinfo hz h0 w o.type ao n cap C hR ad c xs hl hc h1 hm hlen;unfold Oper.wp execOp;simp only[ho,resolve,invoke,builtin,dl,dm,bN,cu,bz,cQ,hs,hx,hr];exact h g cap' w' k1 k2 k3
end Go.Proofs.YtbdkogimlbnlmaaGreat
namespace Go.Proofs.YtbdkogimlbnlmaaGreat
section
open Go.ChangeShapes Go.WideShapes Go.ChangeAt Go.RowKit
theorem ox:Tryz.prog.cellsOf 51=4:=by kernel_rfl
theorem qB:Tryz.prog.cellsOf 28=1:=by kernel_rfl
theorem rC:Tryz.prog.cellsOf 31=5:=by kernel_rfl
theorem nK{H:Type}{enc:TypeId×Value->H}{P:Program}{w:World}{base:Nat}{spare:Nat->Bool}{held:Bool}{t:TypeId}{f0 f1 f2 f3:Field}{fuel:Nat}{cs:List Value}{x:DataW H×List MemPlace}(ht:P.underlying t=some (.struct #[f0,f1,f2,f3]))(h:DataW.trod enc P w base spare held fuel t cs=some x):
 ∃y0 y1 y2 y3 n,x.1=.agg [y0.1,y1.1,y2.1,y3.1]/\cs.length=P.cellsOf t/\DataW.trod enc P w base spare held n f0.type ((cs.drop f0.offset).take (P.cellsOf f0.type))=some y0/\DataW.trod enc P w base spare held n f1.type ((cs.drop f1.offset).take (P.cellsOf f1.type))=some y1/\DataW.trod enc P w base spare held n f2.type ((cs.drop f2.offset).take (P.cellsOf f2.type))=some y2/\DataW.trod enc P w base spare held n f3.type ((cs.drop f3.offset).take (P.cellsOf f3.type))=some y3:=by
 obtain⟨xs,n,_,rfl,hl,hlen,hf⟩:=DataW.trod_struct ht h;match xs,hlen with
 | [y0,y1,y2,y3],_=>exact⟨y0,y1,y2,y3,n,by simp,hl,by simpa using hf 0 f0 rfl,by simpa using hf 1 f1 rfl,by simpa using hf 2 f2 rfl,by simpa using hf 3 f3 rfl⟩
theorem Fa{α:Type}{l:List α}(h:l.length=4):∃c0 c1 c2 c3,l=[c0,c1,c2,c3]:=by
 match l,h with
 | [c0,c1,c2,c3],_=>exact⟨c0,c1,c2,c3,rfl⟩
theorem nv{H:Type}{enc:TypeId×Value->H}{P:Program}{w:World}{base:Nat}{spare:Nat->Bool}{held:Bool}{t:TypeId}{f0 f1 f2 f3 f4:Field}{fuel:Nat}{cs:List Value}{x:DataW H×List MemPlace}(ht:P.underlying t=some (.struct #[f0,f1,f2,f3,f4]))(h:DataW.trod enc P w base spare held fuel t cs=some x):
 ∃y0 y1 y2 y3 y4 n,x.1=.agg [y0.1,y1.1,y2.1,y3.1,y4.1]/\cs.length=P.cellsOf t/\DataW.trod enc P w base spare held n f0.type ((cs.drop f0.offset).take (P.cellsOf f0.type))=some y0/\DataW.trod enc P w base spare held n f1.type ((cs.drop f1.offset).take (P.cellsOf f1.type))=some y1/\DataW.trod enc P w base spare held n f2.type ((cs.drop f2.offset).take (P.cellsOf f2.type))=some y2/\DataW.trod enc P w base spare held n f3.type ((cs.drop f3.offset).take (P.cellsOf f3.type))=some y3/\DataW.trod enc P w base spare held n f4.type ((cs.drop f4.offset).take (P.cellsOf f4.type))=some y4:=by
 obtain⟨xs,n,_,rfl,hl,hlen,hf⟩:=DataW.trod_struct ht h;match xs,hlen with
 | [y0,y1,y2,y3,y4],_=>exact⟨y0,y1,y2,y3,y4,n,by simp,hl,by simpa using hf 0 f0 rfl,by simpa using hf 1 f1 rfl,by simpa using hf 2 f2 rfl,by simpa using hf 3 f3 rfl,by simpa using hf 4 f4 rfl⟩
theorem E0{α:Type}{l:List α}(h:l.length=5):∃c0 c1 c2 c3 c4,l=[c0,c1,c2,c3,c4]:=by
 match l,h with
 | [c0,c1,c2,c3,c4],_=>exact⟨c0,c1,c2,c3,c4,rfl⟩
theorem yD:Tryz.prog.bytesOf 51=64:=by kernel_rfl
theorem qy{H:Type}{enc:TypeId×Value->H}{W:World}{fuel:Nat}{cs:List Value}{d:DataW H}{p:List MemPlace}
 (h:DataW.trod enc Tryz.prog W 0 (λ_=>true) true fuel 51 cs=some (d,p)) (hd:my 51 d):
 ∃r:Iv,cs=r.cs.toList/\Ii W r/\r.key.length<=140737488355264/\r.val.length<=140737488355264:=by
 obtain⟨y0,y1,y2,y3,n,hx,hl,h0,h1,h2,h3⟩:=nK Tryz.underlying51 h;obtain⟨c0,c1,c2,c3,rfl⟩:=Fa (hl.trans ox);simp only[qm,pW,fs,List.drop_succ_cons,List.take_succ_cons,fK] at h0 h1 h2 h3;obtain⟨z2,e2,_,k2⟩:=DataW.trod_int Tryz.underlying3 h2;obtain⟨z3,e3,_,k3⟩:=DataW.trod_int Tryz.underlying3 h3;have hd':d=.agg [y0.1,y1.1,y2.1,y3.1]:=hx
 have w0:my 29 y0.1:=by
  rcases hd with hd|hd
  . refine .inl λx hx=>hd x ?_
    rw[hd'];simp only[DataW.weights,Tryz.underlying51,bz,cQ,DataW.weightsEach,bj];simp[hx]
  . refine .inr ?_;rw[hd'] at hd;simp only[Rows.uptoBulk,Rows.uptoBulkAll] at hd;omega
 have w1:my 29 y1.1:=by
  rcases hd with hd|hd
  . refine .inl λx hx=>hd x ?_
    rw[hd'];simp only[DataW.weights,Tryz.underlying51,bz,cQ,DataW.weightsEach,bj];simp[hx]
  . refine .inr ?_;rw[hd'] at hd;simp only[Rows.uptoBulk,Rows.uptoBulkAll] at hd;omega
 obtain⟨a0,l0,q0,e0,b0,n0,m0,_⟩:=kK (d:=y0.1) (p:=y0.2) h0 w0;obtain⟨a1,l1,q1,e1,b1,n1,m1,_⟩:=kK (d:=y1.1) (p:=y1.2) h1 w1;simp only[eO,dT] at e0 e1 e2 e3;subst e0 e1 e2 e3;exact⟨⟨a0,q0,l0,a1,q1,l1,z2,z3⟩,rfl,⟨b0,m0,b1,m1,n64 k2,n64 k3⟩,by dsimp only;omega,by dsimp only;omega⟩
set_option maxRecDepth 100000 in
theorem uB{H:Type}{enc:TypeId×Value->H}{W:World}{fuel:Nat}{cs:List Value}{d:DataW H}{p:List MemPlace}
 (hf:DataW.trod enc Tryz.prog W 0 (λ_=>true) true fuel 28 cs=some (d,p)) (hd:my 28 d):
 ∃(a:Option Addr)(L:List Iv)(cap:Nat),cs=[.slice a L.length cap]/\Js W a L/\L.length<=2199023255488/\L.length<=cap/\∀r∈L,r.key.length<=140737488355264/\r.val.length<=140737488355264:=by
 rcases Deep.open_slice Tryz.underlying28 hf with⟨hcs,_⟩|⟨x,len,cap,m,n,D,Pl,hcs,_,hl,hm,hmm,hx,hrows⟩
 . exact⟨none,[],0,hcs,⟨by simp,by simp,.inl rfl⟩,by simp,ai _,by simp⟩
 . simp only[fT] at hx;obtain⟨rfl,_⟩:=hx;simp only[if_true] at hmm;subst hmm
   have hlen:len<=2199023255488:=by
    rcases hd with hd|hd
    . have h2:=hd _ (by simp only[DataW.weights,Tryz.underlying28,bP];exact .inl rfl)
      rw[a7,eU,yD] at h2;unfold reachBytes at h2;omega
    . simp only[Rows.uptoBulk] at hd;have h1:=kz ((List.range len).map D);rw[a7,eU] at h1;omega
   by_cases h0:len=0
   . subst h0;exact⟨some x,[],m,hcs,⟨by simp,by simp,.inl rfl⟩,by simp,aF _,by simp⟩
   . have hmemD:∀r,r<len->D r∈(List.range len).map D:=λr hr=>bC.2 ⟨r,cH.2 hr,rfl⟩
     have hbD:∀r,r<len->my 51 (D r):=λr hr=>by
      rcases hd with hd|hd
      . refine .inl λx hx=>hd x ?_
        simp only[DataW.weights,Tryz.underlying28,bP,bj];exact .inr (.inl (ms (hmemD r hr) x hx))
      . have h1:=pT (hmemD r hr);simp only[Rows.uptoBulk] at hd;exact .inr (by omega)
     obtain⟨b,off,spot⟩:=x
     have hspot:spot=none:=by
      obtain⟨cs,hc,ht⟩:=hrows 0 (by omega)
      obtain⟨f,rfl,_⟩:=qy ht (hbD 0 (by omega))
      generalize hk:(0:Nat)=k0 at hc;rw[ox] at hc;obtain⟨_,_,hce⟩:=gu hc;have e0:=(hce 0 (by decide)).trans (show f.cs.toList[0]?=some (.slice f.aK f.key.length f.cK) from rfl)
      have hs0:=World.cell?_spot e0;subst hk;simpa[Addr.add] using hs0
     subst hspot
     have each:∀r,r<len->∃v:Iv,W.rangeAt b (off+r*4) v.cs.toList/\Ii W v/\v.key.length<=140737488355264/\v.val.length<=140737488355264:=by
      intro r hr;obtain⟨cs,hc,ht⟩:=hrows r (by omega)
      obtain⟨v,rfl,h1⟩:=qy ht (hbD r hr);rw[ox] at hc;obtain⟨_,_,hce⟩:=gu hc;refine⟨v,λj u hu=>?_,h1⟩
      have hj:j<4:=(br.1 hu).1;have h:=hce j hj;rw[Deep.add_add,Addr.add_mid,<-eE] at h;exact h.trans hu
     haveI:Inhabited Iv:=⟨Iv.zero⟩;obtain⟨F,hF⟩:=Deep.choose_lt each;have hget:∀r,r<len->((List.range len).map F).getD r Iv.zero=F r:=λr hr=>by simp[hr]
     have hlenL:((List.range len).map F).length=len:=by simp
     refine⟨some ⟨b,off,none⟩,(List.range len).map F,m,by rw[hlenL];exact hcs,⟨λv hv=>?_,by rw[hlenL];omega,.inr ⟨b,off,rfl,λr hr=>?_⟩⟩,by rw[hlenL];exact hlen,by rw[hlenL];exact hl,λv hv=>?_⟩
     . obtain⟨r,hr,rfl⟩:=bC.1 hv;exact(hF r (cH.1 hr)).2.1
     . rw[hlenL] at hr;rw[hget r hr];exact(hF r hr).1
     . obtain⟨r,hr,rfl⟩:=bC.1 hv;exact(hF r (cH.1 hr)).2.2
theorem vT{H:Type}{enc:TypeId×Value->H}{W:World}{fuel:Nat}{cs:List Value}{d:DataW H}{p:List MemPlace}
 (h:DataW.trod enc Tryz.prog W 0 (λ_=>true) true fuel 31 cs=some (d,p)) (hd:my 31 d):
 ∃r:Pv,cs=r.cs.toList/\Pi W r/\r.data.length<=140737488355264/\r.items.length<=2199023255488/\∀x∈r.items,x.key.length<=140737488355264/\x.val.length<=140737488355264:=by
 obtain⟨y0,y1,y2,y3,y4,n,hx,hl,h0,h1,h2,h3,h4⟩:=nv Tryz.underlying31 h;obtain⟨c0,c1,c2,c3,c4,rfl⟩:=E0 (hl.trans rC);simp only[qm,pW,qB,fs,List.drop_succ_cons,List.take_succ_cons,fK] at h0 h1 h2 h3 h4;obtain⟨z0,e0,_,k0⟩:=DataW.trod_int Tryz.underlying3 h0;obtain⟨z1,e1,_,k1⟩:=DataW.trod_int Tryz.underlying3 h1;obtain⟨z4,e4,_,k4⟩:=DataW.trod_int Tryz.underlying3 h4;have hd':d=.agg [y0.1,y1.1,y2.1,y3.1,y4.1]:=hx
 have w2:my 28 y2.1:=by
  rcases hd with hd|hd
  . refine .inl λx hx=>hd x ?_
    rw[hd'];simp only[DataW.weights,Tryz.underlying31,bz,cQ,DataW.weightsEach,bj];simp[hx]
  . refine .inr ?_;rw[hd'] at hd;simp only[Rows.uptoBulk,Rows.uptoBulkAll] at hd;omega
 have w3:my 29 y3.1:=by
  rcases hd with hd|hd
  . refine .inl λx hx=>hd x ?_
    rw[hd'];simp only[DataW.weights,Tryz.underlying31,bz,cQ,DataW.weightsEach,bj];simp[hx]
  . refine .inr ?_;rw[hd'] at hd;simp only[Rows.uptoBulk,Rows.uptoBulkAll] at hd;omega
 obtain⟨a2,l2,q2,e2,b2,n2,m2,s2⟩:=uB (d:=y2.1) (p:=y2.2) h2 w2;obtain⟨a3,l3,q3,e3,b3,n3,m3,_⟩:=kK (d:=y3.1) (p:=y3.2) h3 w3;simp only[eO,dT] at e0 e1 e2 e3 e4;subst e0 e1 e2 e3 e4;exact⟨⟨z0,z1,a2,q2,l2,a3,q3,l3,z4⟩,rfl,⟨b2,m2,b3,m3,n64 k0,n64 k1,n64 k4⟩,by dsimp only;omega,n2,s2⟩
end
end Go.Proofs.YtbdkogimlbnlmaaGreat
namespace Go.Proofs.YtbdkogimlbnlmaaGreat
open Go.RowKit
variable {g rb:Nat}{col:Nat->Nat}{D:Rd}{w w':World}
theorem nj(hg:1<=col g/\col g<=5)(hB:But (λk=>k=g) w w'):Vf w col w' col:=⟨hB.mono (λk _ e=>by rw[e];exact hg),λ_ _=>rfl⟩
theorem Rq.setC(h:Rq w rb D col)(hg:D.aC=some ⟨g,0,none⟩)(k:Nat)(x:Int):
 Rq (w.setCell ⟨g,k,none⟩ (.int .i64 x)) rb {D with C:=D.C.set k x} col/\Vf w col (w.setCell ⟨g,k,none⟩ (.int .i64 x)) col:=by
 have hc:col g=2:=h.cc _ hg;have bs:But (λk=>k=g) w (w.setCell ⟨g,k,none⟩ (.int .i64 x)):=(But.refl (λk=>k=g) w).setCell (p:=⟨g,k,none⟩) (λ_=>rfl) _
 have ne:∀{j c:Nat},col j=c->c≠2->¬j=g:=λe n e2=>n (by rw[<-e,e2,hc])
 have hr:=h.cr;rw[hg] at hr;refine⟨⟨?_,?_,h.lr.but bs (λy hy=>ne (h.cl y hy) (by decide)),h.pr.but bs (λy hy=>ne (h.cp y hy) (by decide)),λp hp=>(h.pz p hp).but bs (λk _ e=>ne e (by decide)),h.ps,h.cb,h.cc,h.cl,h.cp,λj hj=>aZ (h.lt j hj) bs.size,?_,?_,?_⟩,nj (by omega) bs⟩
 . rw[bs.same h.box (ne h.cb (by decide))];unfold Rd.box;rw[aO]
 . show Q.Ig _ D.aC _ _;rw[hg];exact hr.set k x
 . show D.L.length=(D.C.set k x).length;rw[aO];exact h.nL
 . show D.P.length=(D.C.set k x).length;rw[aO];exact h.nP
 . show(D.C.set k x).length<=_;rw[aO];exact h.n6
theorem Rq.setL(h:Rq w rb D col)(hg:D.aL=some ⟨g,0,none⟩)(k:Nat)(x:Bool):
 Rq (w.setCell ⟨g,k,none⟩ (.bool x)) rb {D with L:=D.L.set k x} col/\Vf w col (w.setCell ⟨g,k,none⟩ (.bool x)) col:=by
 have hc:col g=3:=h.cl _ hg;have bs:But (λk=>k=g) w (w.setCell ⟨g,k,none⟩ (.bool x)):=(But.refl (λk=>k=g) w).setCell (p:=⟨g,k,none⟩) (λ_=>rfl) _
 have ne:∀{j c:Nat},col j=c->c≠3->¬j=g:=λe n e2=>n (by rw[<-e,e2,hc])
 have hr:=h.lr;rw[hg] at hr;refine⟨⟨?_,h.cr.but bs (λy hy=>ne (h.cc y hy) (by decide)),?_,h.pr.but bs (λy hy=>ne (h.cp y hy) (by decide)),λp hp=>(h.pz p hp).but bs (λk _ e=>ne e (by decide)),h.ps,h.cb,h.cc,h.cl,h.cp,λj hj=>aZ (h.lt j hj) bs.size,?_,h.nP,h.n6⟩,nj (by omega) bs⟩
 . rw[bs.same h.box (ne h.cb (by decide))];unfold Rd.box;rw[aO]
 . show Q.Gw _ _ _ D.aL _ (D.L.set k x).length _;rw[hg,aO,<-Db];exact hr.setc k _
 . show(D.L.set k x).length=D.C.length;rw[aO];exact h.nL
theorem Rq.setP(h:Rq w rb D col)(hg:D.aP=some ⟨g,0,none⟩)(k:Nat)(x:Pv)(hx:Pz (λk=>col k=6) w x)(hxs:x.pg.check=0\/x=Pv.zero):
 Rq (w.setCells g (k*5) x.cs.toList) rb {D with P:=D.P.set k x} col/\Vf w col (w.setCells g (k*5) x.cs.toList) col:=by
 have hc:col g=4:=h.cp _ hg;have bs:=iV g x.cs.toList w (k*5);have ne:∀{j c:Nat},col j=c->c≠4->¬j=g:=λe n e2=>n (by rw[<-e,e2,hc])
 have hr:=h.pr;rw[hg] at hr;refine⟨⟨?_,h.cr.but bs (λy hy=>ne (h.cc y hy) (by decide)),h.lr.but bs (λy hy=>ne (h.cl y hy) (by decide)),?_,λp hp=>?_,λp hp=>?_,h.cb,h.cc,h.cl,h.cp,λj hj=>aZ (h.lt j hj) bs.size,h.nL,?_,h.n6⟩,nj (by omega) bs⟩
 . rw[bs.same h.box (ne h.cb (by decide))];unfold Rd.box;rw[aO]
 . show Q.Gw _ _ _ D.aP _ (D.P.set k x).length _;rw[hg];exact hr.setp k x
 . rcases fo hp with hp|rfl
   . exact(h.pz p hp).but bs (λk _ e=>ne e (by decide))
   . exact hx.but bs (λk _ e=>ne e (by decide))
 . rcases fo hp with hp|rfl
   . exact h.ps p hp
   . exact hxs
 . show(D.P.set k x).length=D.C.length;rw[aO];exact h.nP
theorem Rq.page(h:Rq w rb D col)(hb:Below w.heap.size w w'):Rq w' rb D (ia col w w' 6)/\Vf w col w' (ia col w w' 6):=by
 have k:=h.keep hb;have lt:=h.lt;have po:∀{j c:Nat},col j=c->c≠0->ia col w w' 6 j=c:=λ{j c} e hc=>by rw[iL (lt j (by rw[e];exact hc)),e]
 refine⟨⟨k.box,k.cr,k.lr,k.pr,λp hp=>(k.pz p hp).mono (λj hj e=>po e (by decide)),k.ps,po h.cb (by decide),λx hx=>po (h.cc x hx) (by decide),λx hx=>po (h.cl x hx) (by decide),λx hx=>po (h.cp x hx) (by decide),λj hj=>jZ hb.size hj,k.nL,k.nP,k.n6⟩,But.ofBelow hb,λj hj=>iL hj⟩
def Rd.put(D:Rd)(z:Int)(c:Int):Rd:={D with C:=D.C.set (z-1).toNat c}
def Rd.inc(D:Rd)(z:Int):Int×Rd:=if 0<D.count z then (if D.R<=D.count z then (13,D) else (0,D.put z (D.count z+1))) else (15,D)
theorem tA(w:World)(rb:Nat)(D:Rd)(col:Nat->Nat)(h:Rq w rb D col)(z:Int)(hR:D.R<=65536):
 Calls Tryz.prog 109 #[.pointer (some ⟨rb,0,none⟩),.int .i64 z] w λe w'=>e=.returned (.int .i64 (D.inc z).1)/\Rq w' rb (D.inc z).2 col/\Vf w col w' col:=by
 have HQ:=gZ h;obtain⟨c0,c1,c2,c3,c6⟩:=h.cells;have TH:=gZ (jL w rb D col h z);unfold Rd.inc;by_cases h0:0<D.count z
 . rw[if_pos h0];rw[ay h0] at TH
   have hh:D.has z=true:=by
    unfold Rd.count at h0;split at h0
    . assumption
    . omega
   have hc:D.count z=D.C.getD (z-1).toNat 0:=by unfold Rd.count;rw[if_pos hh]
   obtain⟨h1,h2⟩:=Rd.has_iff.1 hh;obtain⟨i,hi⟩:∃i:Nat,z=(i:Int)+1:=⟨(z-1).toNat,by omega⟩
   subst hi;have hi:i<D.C.length:=by omega
   obtain⟨g,e,cA⟩:=h.cAt hi;have ez:((i:Int)+1-1).toNat=i:=by omega
   have EZ:=gZ ez;rw[ez] at hc;rw[<-hc] at cA
   have fA:w.frozen? ⟨g,i,none⟩=false:=by
    have k:=h.cr;rw[e] at k;exact Q.Gw.free k i
   rw[e] at c1;have HE:=gZ e;have hs:(i:Int)+1-1=(i:Int):=by omega
   have hii:(i:Int)<(D.C.length:Int):=by omega
   have h6:=h.n6;by_cases hr:D.R<=D.count ((i:Int)+1)
   . rw[if_pos hr];have d1:decide (D.R<=D.count ((i:Int)+1))=true:=ay hr;clear h hc hh ez e hR h0 h1 h2 hr;generalize D.C.length=m at *;generalize D.count ((i:Int)+1)=x at *;go_enter Tryz.func109,Tryz.ntmps109;go_wp2_with fail
     refine TH.o.mono ?_;rintro _ wq ⟨rfl,hwq⟩;rw[hwq];clear hwq;go_wp2_with fail
     go_quiet (fail)
     go_wp2_with fail
     go_ret;exact⟨rfl,HQ.o.keep (drN _ _),Vf.keep (drN _ _)⟩
   . rw[if_neg hr];have d1:decide (D.R<=D.count ((i:Int)+1))=false:=au hr;have s1:IntKind.i64.wrap (D.count ((i:Int)+1)+1)=D.count ((i:Int)+1)+1:=Q.im (by omega) (by omega)
     have s2:wrap64 (D.count ((i:Int)+1)+1)=D.count ((i:Int)+1)+1:=by unfold wrap64;omega
     have PT:Hid (∀x,D.put ((i:Int)+1) x={D with C:=D.C.set i x}):=λx=>by unfold Rd.put;rw[EZ.o]
     rw[PT.o];clear h hc hh ez e hR h0 h1 h2 hr PT;have CL:Hid (D.C.length=D.C.length):=rfl;generalize D.count ((i:Int)+1)=x at *;obtain⟨m,hm⟩:∃m,D.C.length=m:=⟨_,rfl⟩;simp only[hm] at c1 hii h6;clear hm CL;go_enter Tryz.func109,Tryz.ntmps109;go_wp2_with fail
     refine TH.o.mono ?_;rintro _ wq ⟨rfl,hwq⟩;rw[hwq];clear hwq;go_wp2_with fail
     go_quiet (fail)
     go_wp2_with fail
     go_ret;exact⟨rfl,((HQ.o.keep (drN _ _)).setC HE.o _ _).1,(Vf.keep (drN _ _)).trans ((HQ.o.keep (drN _ _)).setC HE.o _ _).2⟩
 . rw[if_neg h0];rw[au h0] at TH;clear h h0;go_enter Tryz.func109,Tryz.ntmps109;go_wp2_with fail
   refine TH.o.mono ?_;rintro _ wq ⟨rfl,hwq⟩;rw[hwq];clear hwq;go_wp2_with fail
   go_ret;exact⟨rfl,HQ.o,Vf.refl _ _⟩
end Go.Proofs.YtbdkogimlbnlmaaGreat
